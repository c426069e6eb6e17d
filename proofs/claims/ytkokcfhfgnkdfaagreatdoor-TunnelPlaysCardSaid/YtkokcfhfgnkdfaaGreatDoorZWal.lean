/- Wal -/
import Derived.Test.YtkokcfhfgnkdfaaGreatDoorZ9
import Derived.Test.YtkokcfhfgnkdfaaGreatDoorZ10
/- The law of a direction that is emptied. -/
namespace Go.Proofs.YtkokcfhfgnkdfaaGreatDoor.L17
open Go.RowKit Go.Shelf
open L1 (str)
open L14 (isSt goes dest inB outB endB Laid)
attribute [local go_sem] Oper.semAt_some

theorem str_app (a b : List UInt8) : str (a ++ b) = str a ++ str b := by
  apply ByteArray.ext
  simp [str, ByteArray.data_append]
theorem str_take (s : ByteArray) (N : Nat) : s.extract 0 N = str (s.data.toList.take N) := by
  apply ByteArray.ext
  apply Array.ext'
  simp [str, ByteArray.data_extract, Array.toList_extract, List.extract]
theorem AllS.cap {n : Nat} {d : Int} {t : Tn} {inn out : List UInt8} {c : Nat} (h : AllS n d t inn out c) : (str out).size ≤ c ∧ (str inn).size ≤ c := by
  have h1 := inn_len h
  have h2 := h.len
  rw [L1.str_size, L1.str_size]
  exact ⟨by omega, by omega⟩
theorem AllS.mid {n : Nat} {d : Int} {t : Tn} {inn out : List UInt8} {c : Nat} (h : AllS n d t inn out c) (hd : sideB d = true) :
    AllS n d (g1 t d) inn out c ∧ AllS n d (m1 n t d) inn out c := by
  have s1 := h.step hd ⟨1, d, 100, ⟨#[]⟩⟩ (show (1 : Int) ≠ 0 by decide) (show (1 : Int) ≠ 5 by decide) (B := 0) (Nat.le_refl _)
  have e1 : doT n t ⟨1, d, 100, ⟨#[]⟩⟩ = g1 t d := rfl
  have i1 : inX n t ⟨1, d, 100, ⟨#[]⟩⟩ d = [] := by unfold inX; rw [if_neg (fun h => absurd (show (1 : Int) = 2 from h.2.1) (by decide))]
  have o1 : outX t ⟨1, d, 100, ⟨#[]⟩⟩ d = [] := by unfold outX doS; rw [if_neg (show ¬ (1 : Int) = 4 by decide)]; split <;> rfl
  rw [e1, i1, o1, List.append_nil, List.append_nil, Nat.add_zero] at s1
  have s2 := s1.step hd ⟨3, d, 100, ⟨#[]⟩⟩ (show (3 : Int) ≠ 0 by decide) (show (3 : Int) ≠ 5 by decide) (B := 0) (Nat.le_refl _)
  have e2 : doT n (g1 t d) ⟨3, d, 100, ⟨#[]⟩⟩ = m1 n t d := rfl
  have i2 : inX n (g1 t d) ⟨3, d, 100, ⟨#[]⟩⟩ d = [] := by unfold inX; rw [if_neg (fun h => absurd (show (3 : Int) = 2 from h.2.1) (by decide))]
  have o2 : outX (g1 t d) ⟨3, d, 100, ⟨#[]⟩⟩ d = [] := by unfold outX doS; rw [if_neg (show ¬ (3 : Int) = 4 by decide)]; split <;> rfl
  rw [e2, i2, o2, List.append_nil, List.append_nil, Nat.add_zero] at s2
  exact ⟨s1, s2⟩

set_option maxRecDepth 100000 in
set_option maxHeartbeats 4000000 in
theorem all_0 (n : Nat) (h1 : 1 ≤ n) (h2 : n ≤ 4096) (a : Option Addr) (c : Nat) (xs : List OpV) (w : World) (hx : xs.length ≤ 9223372036854775807) (hA : OpVAt w.heap.size w a xs) (hL : Laid w) :
    Calls Tryz.prog 7 #[.int .i64 (n : Int), .slice a xs.length c, .int .i64 0] w fun e w' => e = .returned (.bool true) ∧ Below w.heap.size w w' := by
  have HSh := Lib.hid (shown_c w hL)
  have HL0 := Lib.hid hL
  have HA := Lib.hid hA
  clear hA
  clear hL
  go_enter Tryz.func7, Tryz.ntmps7
  go_wp2_with fail
  go_at_call 10
  refine HSh.out.mono ?_
  rintro e v0 ⟨rfl, hb⟩
  have HB0 := Lib.hid hb
  have HLv0 := Lib.hid (HL0.out.on hb)
  clear hb
  go_wp2_with fail
  have hc := Made_ok n h1 h2 none 0 [] (by simp) v0 (OpVAt.nil _ _ _) HLv0.out
  change Calls Tryz.prog _ #[.int .i64 (n : Int), .slice none 0 0] _ _ at hc
  go_at_call 20
  refine hc.mono ?_
  clear hc
  rintro e v1 ⟨T, hi, rfl, ht, hTz, hb⟩
  have HTn1 : Hid (TunAt v1 T hi n upT) := Lib.hid ht
  have HB1 := Lib.hid (btr HB0.out hb)
  have HLv1 := Lib.hid (HLv0.out.on hb)
  have lg : 0 < T := by obtain ⟨_, _, _, q⟩ := ht; exact q.lg
  have hzT : w.heap.size ≤ T := Nat.le_trans HB0.out.size hTz
  clear ht hb
  go_wp2_with fail
  have hc := Cut_c a c xs hx v1 (HA.out.on HB1.out)
  go_at_call 11
  refine hc.mono ?_
  clear hc
  rintro e v2 ⟨v, rfl, ho, hb⟩
  obtain ⟨az, cz, rfl, hof⟩ := row_out (T := T) (hi := hi) ho HTn1.out.lz
  have HOF := Lib.hid hof
  have HTn2 := Lib.hid (HTn1.out.below hb)
  have HLv2 := Lib.hid (HLv1.out.on hb)
  have HB2 := Lib.hid (btr HB1.out hb)
  have hln := cutL_len xs
  have HZ := Lib.hid (And.intro (cutL_size xs) hln)
  obtain ⟨zs, hzs⟩ : ∃ zs, cutL xs = zs := ⟨_, rfl⟩
  rw [hzs] at HOF HZ hln ⊢
  clear ho hof hb hzs
  go_wp2
  go_loopw [10, 11, 12] (fun p q i wr => ∃ (k : Nat) (t : Tn) (inn out : List UInt8), k ≤ zs.length ∧ i = .int .i64 (k : Int) ∧ p = .string (str inn) ∧ q = .string (str out) ∧ Hid (TunAt wr T hi n t) ∧ Hid (AllS n 0 t inn out (50 * k)) ∧ Hid (Goes (Rin T hi) v2 wr)) (fun _ _ i _ => zs.length - (intOf i).toNat)
  case atStart => exact ⟨0, upT, [], [], Nat.zero_le _, rfl, rfl, rfl, HTn2, Lib.hid (up_alls n 0), Lib.hid (Goes.refl _ _)⟩
  case round =>
    obtain ⟨k, t, inn, out, hk, rfl, rfl, rfl, HT, HS, HG⟩ := hrel
    by_cases hlt : k < zs.length
    · have hlt' : (k : Int) < (zs.length : Int) := by omega
      obtain ⟨b, off, rfl, nb, d0, d1, d2, d3⟩ := (HOF.out.goes HG.out) k hlt
      have hxs := HZ.out.1 zs[k] (List.getElem_mem hlt)
      generalize zs[k] = x at *
      by_cases hk0 : x.kind = 0
      · rw [hk0] at d0
        go_wp2
        go_roundw
        case rel => exact ⟨k + 1, t, inn, out, by omega, by go_num, rfl, rfl, HT, Lib.hid ⟨HS.out.w, HS.out.st, HS.out.cn.mono' (by omega)⟩, HG⟩
        case measure => simp [intOf]; omega
      by_cases hk5 : x.kind = 5
      · rw [hk5] at d0
        go_wp2
        go_roundw
        case rel => exact ⟨k + 1, t, inn, out, by omega, by go_num, rfl, rfl, HT, Lib.hid ⟨HS.out.w, HS.out.st, HS.out.cn.mono' (by omega)⟩, HG⟩
        case measure => simp [intOf]; omega
      have e0 : (x.kind == 0) = false := by simpa using hk0
      have e5 : (x.kind == 5) = false := by simpa using hk5
      have HD := Lib.hid (do_c T hi n t x (by omega) (HS.out.cn.sm (by omega)) wr HT.out (laid_on HLv2.out HG.out lg))
      have HS2 := Lib.hid (HS.out.step (d := 0) rfl x hk0 hk5 hxs)
      unfold opV at HD
      have hNs : x.kind = 2 → doE t x = 0 → doN n t x ≤ x.s.size := fun h2 he => by
        have e4 : doE t x = feedE t x.side := by unfold doE; rw [if_neg (by omega), if_neg (by omega), if_pos h2]
        unfold doN; rw [if_pos h2]; unfold feedTN; rw [if_pos (e4.symm.trans he)]; exact Nat.min_le_left _ _
      have hso : x.kind ≠ 4 → str (doS t x) = str [] := fun h4 => by unfold doS; rw [if_neg h4]
      have hin : ∀ r : List UInt8, inX n t x 0 = r → inX n t x 0 = r := fun _ h => h
      have HI1 := Lib.hid (show ¬ (x.side = 0 ∧ x.kind = 2 ∧ doE t x = 0) → inX n t x 0 = [] from fun h => if_neg h)
      have HI2 := Lib.hid (show (x.side = 0 ∧ x.kind = 2 ∧ doE t x = 0) → inX n t x 0 = x.s.data.toList.take (doN n t x) from fun h => if_pos h)
      have HO1 := Lib.hid (show ¬ (x.side = 0 ∧ doE t x = 0) → outX t x 0 = [] from fun h => if_neg h)
      have HO2 := Lib.hid (show (x.side = 0 ∧ doE t x = 0) → outX t x 0 = doS t x from fun h => if_pos h)
      obtain ⟨E6, hE6⟩ : ∃ E, doE t x = E := ⟨_, rfl⟩
      obtain ⟨N6, hN6⟩ : ∃ E, doN n t x = E := ⟨_, rfl⟩
      obtain ⟨L6, hL6⟩ : ∃ E, doS t x = E := ⟨_, rfl⟩
      obtain ⟨S6, hS6⟩ : ∃ E, str L6 = E := ⟨_, rfl⟩
      rw [hE6, hN6, hL6, hS6] at HD
      rw [hE6, hN6] at HI2
      rw [hE6] at HI1 HO1 HO2
      rw [hL6] at HO2
      have HNs := Lib.hid hNs
      rw [hE6, hN6] at HNs
      have HS6 := Lib.hid hS6
      have HXS := Lib.hid hxs
      clear hNs hso hin hE6 hN6 hL6 hS6 hxs
      go_wp2_with fail
      go_at_call 17
      refine HD.out.mono ?_
      rintro e w6 ⟨rfl, ht6, hg6⟩
      replace d0 := hg6.cell d0 nb
      replace d1 := hg6.cell d1 nb
      replace d3 := hg6.cell d3 nb
      have HT7 := Lib.hid (ht6.below (below_alloc w6 (.cells #[.int .i64 (N6 : Int), .string S6, .int .i64 E6] 35)))
      have HG7 := Lib.hid ((HG.out.trans hg6).trans (Goes.of_below (below_alloc w6 (.cells #[.int .i64 (N6 : Int), .string S6, .int .i64 E6] 35))))
      replace d0 := keep_alloc (.cells #[.int .i64 (N6 : Int), .string S6, .int .i64 E6] 35) d0
      replace d1 := keep_alloc (.cells #[.int .i64 (N6 : Int), .string S6, .int .i64 E6] 35) d1
      replace d3 := keep_alloc (.cells #[.int .i64 (N6 : Int), .string S6, .int .i64 E6] 35) d3
      have q0 : (w6.alloc (.cells #[.int .i64 (N6 : Int), .string S6, .int .i64 E6] 35)).cell? ⟨w6.heap.size, 0, none⟩ = some (.int .i64 (N6 : Int)) := by go_simp
      have q1 : (w6.alloc (.cells #[.int .i64 (N6 : Int), .string S6, .int .i64 E6] 35)).cell? ⟨w6.heap.size, 1, none⟩ = some (.string S6) := by go_simp
      have q2 : (w6.alloc (.cells #[.int .i64 (N6 : Int), .string S6, .int .i64 E6] 35)).cell? ⟨w6.heap.size, 2, none⟩ = some (.int .i64 E6) := by go_simp
      clear ht6 hg6 HG HT HD
      by_cases hsd : x.side = 0
      · rw [hsd] at d1
        by_cases hE : E6 = 0
        · subst hE
          have ho := HO2.out ⟨hsd, rfl⟩
          by_cases hK : x.kind = 2
          · have hi := HI2.out ⟨hsd, hK, rfl⟩
            have hN := HNs.out hK rfl
            rw [ho, hi] at HS2
            obtain ⟨z1, z2⟩ := AllS.cap HS2.out
            rw [str_app, ByteArray.size_append] at z1 z2
            rw [HS6.out] at z1
            have hxs := HXS.out
            have z3 : (x.s.extract 0 N6).size ≤ 50 := by rw [ByteArray.size_extract]; omega
            have hn1 : (N6 : Int) ≤ (x.s.size : Int) := by omega
            have hn2 : ¬ (x.s.size : Int) < (N6 : Int) := by omega
            have hn3 : ¬ (N6 : Int) < 0 := by omega
            have hn4 : min (N6 : Int) (x.s.size : Int) = (N6 : Int) := by omega
            have hn5 : max (N6 : Int) 0 = (N6 : Int) := by omega
            rw [hK] at d0
            clear hsd hK ho hi hN
            generalize x.s = s at *
            go_wp2_with fail
            generalize (w6.alloc (.cells #[.int .i64 (N6 : Int), .string S6, .int .i64 0] 35)) = V7 at *
            go_quiet (fail)
            go_wp2_with fail
            go_roundw
            case rel => exact ⟨k + 1, _, inn ++ s.data.toList.take N6, out ++ L6, by omega, by go_num, by rw [str_app, ← str_take], by rw [str_app, HS6.out], Lib.hid (HT7.out.below (below_drewN (Below.refl _ _) _)), Lib.hid ⟨HS2.out.w, HS2.out.st, HS2.out.cn.mono' (by omega)⟩, Lib.hid (HG7.out.trans (Goes.of_below (below_drewN (Below.refl _ _) _)))⟩
            case measure => simp [intOf]; omega
          · have hi := HI1.out (fun h => hK h.2.1)
            rw [ho, hi, List.append_nil] at HS2
            obtain ⟨z1, z2⟩ := AllS.cap HS2.out
            rw [str_app, ByteArray.size_append, HS6.out] at z1
            have hK' : (x.kind == 2) = false := by simpa using hK
            clear hsd ho hi
            go_wp2_with fail
            go_roundw
            case rel => exact ⟨k + 1, _, inn, out ++ L6, by omega, by go_num, rfl, by rw [str_app, HS6.out], HT7, Lib.hid ⟨HS2.out.w, HS2.out.st, HS2.out.cn.mono' (by omega)⟩, HG7⟩
            case measure => simp [intOf]; omega
        · have ho := HO1.out (fun h => hE h.2)
          have hi := HI1.out (fun h => hE h.2.2)
          rw [ho, hi, List.append_nil, List.append_nil] at HS2
          have hE' : (E6 == 0) = false := by simpa using hE
          clear ho hi hsd
          go_wp2_with fail
          go_roundw
          case rel => exact ⟨k + 1, _, inn, out, by omega, by go_num, rfl, rfl, HT7, Lib.hid ⟨HS2.out.w, HS2.out.st, HS2.out.cn.mono' (by omega)⟩, HG7⟩
          case measure => simp [intOf]; omega
      · have ho := HO1.out (fun h => hsd h.1)
        have hi := HI1.out (fun h => hsd h.1)
        rw [ho, hi, List.append_nil, List.append_nil] at HS2
        have hsd' : (x.side == 0) = false := by simpa using hsd
        clear ho hi
        go_wp2_with fail
        go_roundw
        case rel => exact ⟨k + 1, _, inn, out, by omega, by go_num, rfl, rfl, HT7, Lib.hid ⟨HS2.out.w, HS2.out.st, HS2.out.cn.mono' (by omega)⟩, HG7⟩
        case measure => simp [intOf]; omega
    · obtain rfl : k = zs.length := by omega
      have hlt' : ¬ (zs.length : Int) < (zs.length : Int) := by omega
      have hil := inn_len HS.out
      have HQ0 := Lib.hid (all_start HS.out (by omega))
      have HIL := Lib.hid (show inn.length ≤ 2500 by omega)
      have hBw := goes_b HB2.out HG.out hzT
      have HBw := Lib.hid hBw
      have HLw := Lib.hid (laid_on HLv2.out HG.out lg)
      have HSw := Lib.hid (show AllS n 0 t inn out 2500 from ⟨HS.out.w, HS.out.st, HS.out.cn.mono' (by omega)⟩)
      clear hil hBw HS HG
      go_wp2
      go_loopw [11, 14] (fun q i wr => ∃ (j : Nat) (t : Tn) (out : List UInt8), j ≤ 60 ∧ i = .int .i64 (j : Int) ∧ q = .string (str out) ∧ Hid (TunAt wr T hi n t) ∧ Hid (AllS n 0 t inn out 2500) ∧ Hid (AllQ n j (t.way 0).o.length (t.way 0).i.length) ∧ Hid (Below w.heap.size w wr) ∧ Hid (Laid wr)) (fun _ i _ => 60 - (intOf i).toNat)
      case atStart => exact ⟨0, t, out, by decide, rfl, rfl, HT, HSw, HQ0, HBw, HLw⟩
      case round =>
        obtain ⟨j, t, out, hj, rfl, rfl, HT, HS, HQ, HB, HL⟩ := hrel
        by_cases hj6 : j < 60
        · have hj7 : (j : Int) < 60 := by omega
          by_cases hl : out.length < inn.length
          · have hl1 : ((str out).size : Int) < ((str inn).size : Int) := by rw [L1.str_size, L1.str_size]; omega
            obtain ⟨rs, rq⟩ := AllS.round HS.out (show sideB 0 = true from rfl) (by decide) HQ.out
            obtain ⟨rg, rm⟩ := AllS.mid HS.out (show sideB 0 = true from rfl)
            obtain ⟨z1, z2⟩ := AllS.cap rs
            have HRS := Lib.hid rs
            have HRQ := Lib.hid rq
            have HS1 := Lib.hid (rg.cn.sm (by decide))
            have HS2 := Lib.hid (rm.cn.sm (by decide))
            rw [str_app, ByteArray.size_append] at z1
            clear rs rq rg rm hl
            have HG1 := Lib.hid (tgrant_c T hi n t 0 100 wr HT.out HL.out)
            go_wp2_with fail
            go_at_call 22
            refine HG1.out.mono ?_
            rintro e w2 ⟨rfl, ht, hg⟩
            have HTa : Hid (TunAt w2 T hi n (g1 t 0)) := Lib.hid ht
            have HBa := Lib.hid (goes_b HB.out hg hzT)
            have HLa := Lib.hid (laid_on HL.out hg lg)
            clear ht hg HG1
            have HG2 := Lib.hid (tmove_c T hi n (g1 t 0) 0 100 w2 HS1.out HTa.out HLa.out)
            go_wp2_with fail
            go_at_call 23
            refine HG2.out.mono ?_
            rintro e w3 ⟨rfl, ht, hg⟩
            have HTb : Hid (TunAt w3 T hi n (m1 n t 0)) := Lib.hid ht
            have HBb := Lib.hid (goes_b HBa.out hg hzT)
            have HLb := Lib.hid (laid_on HLa.out hg lg)
            clear ht hg HG2
            have HG3 := Lib.hid (tdrain_c T hi n (m1 n t 0) 0 200 w3 HS2.out HTb.out HLb.out)
            obtain ⟨L6, hL6⟩ : ∃ L, drainS (m1 n t 0) 0 200 = L := ⟨_, rfl⟩
            rw [hL6] at HG3 HRS z1
            obtain ⟨S6, hS6⟩ : ∃ L, str L6 = L := ⟨_, rfl⟩
            have HS6 := Lib.hid hS6
            rw [hS6] at HG3 z1
            clear hL6 hS6
            go_wp2_with fail
            go_at_call 24
            refine HG3.out.mono ?_
            rintro e w4 ⟨rfl, ht, hg⟩
            have HTc : Hid (TunAt w4 T hi n (r1 n t 0)) := Lib.hid ht
            have HBc := Lib.hid (goes_b HBb.out hg hzT)
            have HLc := Lib.hid (laid_on HLb.out hg lg)
            clear ht hg HG3
            go_wp2_with fail
            go_roundw
            case rel => exact ⟨j + 1, r1 n t 0, out ++ L6, by omega, by go_num, by rw [str_app, HS6.out], HTc, HRS, HRQ, HBc, HLc⟩
            case measure => simp [intOf]; omega
          · have hl1 : ¬ ((str out).size : Int) < ((str inn).size : Int) := by rw [L1.str_size, L1.str_size]; omega
            have ho := AllS.eq HS.out hl
            rw [ho] at hl1
            subst ho
            clear hl
            go_wp2
            go_ret
            exact ⟨rfl, HB.out⟩
        · obtain rfl : j = 60 := by omega
          have ho := all_stop HS.out HQ.out
          subst ho
          go_wp2
          go_ret
          exact ⟨rfl, HB.out⟩
set_option maxRecDepth 100000 in
set_option maxHeartbeats 4000000 in
theorem all_1 (n : Nat) (h1 : 1 ≤ n) (h2 : n ≤ 4096) (a : Option Addr) (c : Nat) (xs : List OpV) (w : World) (hx : xs.length ≤ 9223372036854775807) (hA : OpVAt w.heap.size w a xs) (hL : Laid w) :
    Calls Tryz.prog 7 #[.int .i64 (n : Int), .slice a xs.length c, .int .i64 1] w fun e w' => e = .returned (.bool true) ∧ Below w.heap.size w w' := by
  have HSh := Lib.hid (shown_c w hL)
  have HL0 := Lib.hid hL
  have HA := Lib.hid hA
  clear hA
  clear hL
  go_enter Tryz.func7, Tryz.ntmps7
  go_wp2_with fail
  go_at_call 10
  refine HSh.out.mono ?_
  rintro e v0 ⟨rfl, hb⟩
  have HB0 := Lib.hid hb
  have HLv0 := Lib.hid (HL0.out.on hb)
  clear hb
  go_wp2_with fail
  have hc := Made_ok n h1 h2 none 0 [] (by simp) v0 (OpVAt.nil _ _ _) HLv0.out
  change Calls Tryz.prog _ #[.int .i64 (n : Int), .slice none 0 0] _ _ at hc
  go_at_call 20
  refine hc.mono ?_
  clear hc
  rintro e v1 ⟨T, hi, rfl, ht, hTz, hb⟩
  have HTn1 : Hid (TunAt v1 T hi n upT) := Lib.hid ht
  have HB1 := Lib.hid (btr HB0.out hb)
  have HLv1 := Lib.hid (HLv0.out.on hb)
  have lg : 0 < T := by obtain ⟨_, _, _, q⟩ := ht; exact q.lg
  have hzT : w.heap.size ≤ T := Nat.le_trans HB0.out.size hTz
  clear ht hb
  go_wp2_with fail
  have hc := Cut_c a c xs hx v1 (HA.out.on HB1.out)
  go_at_call 11
  refine hc.mono ?_
  clear hc
  rintro e v2 ⟨v, rfl, ho, hb⟩
  obtain ⟨az, cz, rfl, hof⟩ := row_out (T := T) (hi := hi) ho HTn1.out.lz
  have HOF := Lib.hid hof
  have HTn2 := Lib.hid (HTn1.out.below hb)
  have HLv2 := Lib.hid (HLv1.out.on hb)
  have HB2 := Lib.hid (btr HB1.out hb)
  have hln := cutL_len xs
  have HZ := Lib.hid (And.intro (cutL_size xs) hln)
  obtain ⟨zs, hzs⟩ : ∃ zs, cutL xs = zs := ⟨_, rfl⟩
  rw [hzs] at HOF HZ hln ⊢
  clear ho hof hb hzs
  go_wp2
  go_loopw [10, 11, 12] (fun p q i wr => ∃ (k : Nat) (t : Tn) (inn out : List UInt8), k ≤ zs.length ∧ i = .int .i64 (k : Int) ∧ p = .string (str inn) ∧ q = .string (str out) ∧ Hid (TunAt wr T hi n t) ∧ Hid (AllS n 1 t inn out (50 * k)) ∧ Hid (Goes (Rin T hi) v2 wr)) (fun _ _ i _ => zs.length - (intOf i).toNat)
  case atStart => exact ⟨0, upT, [], [], Nat.zero_le _, rfl, rfl, rfl, HTn2, Lib.hid (up_alls n 1), Lib.hid (Goes.refl _ _)⟩
  case round =>
    obtain ⟨k, t, inn, out, hk, rfl, rfl, rfl, HT, HS, HG⟩ := hrel
    by_cases hlt : k < zs.length
    · have hlt' : (k : Int) < (zs.length : Int) := by omega
      obtain ⟨b, off, rfl, nb, d0, d1, d2, d3⟩ := (HOF.out.goes HG.out) k hlt
      have hxs := HZ.out.1 zs[k] (List.getElem_mem hlt)
      generalize zs[k] = x at *
      by_cases hk0 : x.kind = 0
      · rw [hk0] at d0
        go_wp2
        go_roundw
        case rel => exact ⟨k + 1, t, inn, out, by omega, by go_num, rfl, rfl, HT, Lib.hid ⟨HS.out.w, HS.out.st, HS.out.cn.mono' (by omega)⟩, HG⟩
        case measure => simp [intOf]; omega
      by_cases hk5 : x.kind = 5
      · rw [hk5] at d0
        go_wp2
        go_roundw
        case rel => exact ⟨k + 1, t, inn, out, by omega, by go_num, rfl, rfl, HT, Lib.hid ⟨HS.out.w, HS.out.st, HS.out.cn.mono' (by omega)⟩, HG⟩
        case measure => simp [intOf]; omega
      have e0 : (x.kind == 0) = false := by simpa using hk0
      have e5 : (x.kind == 5) = false := by simpa using hk5
      have HD := Lib.hid (do_c T hi n t x (by omega) (HS.out.cn.sm (by omega)) wr HT.out (laid_on HLv2.out HG.out lg))
      have HS2 := Lib.hid (HS.out.step (d := 1) rfl x hk0 hk5 hxs)
      unfold opV at HD
      have hNs : x.kind = 2 → doE t x = 0 → doN n t x ≤ x.s.size := fun h2 he => by
        have e4 : doE t x = feedE t x.side := by unfold doE; rw [if_neg (by omega), if_neg (by omega), if_pos h2]
        unfold doN; rw [if_pos h2]; unfold feedTN; rw [if_pos (e4.symm.trans he)]; exact Nat.min_le_left _ _
      have hso : x.kind ≠ 4 → str (doS t x) = str [] := fun h4 => by unfold doS; rw [if_neg h4]
      have hin : ∀ r : List UInt8, inX n t x 1 = r → inX n t x 1 = r := fun _ h => h
      have HI1 := Lib.hid (show ¬ (x.side = 1 ∧ x.kind = 2 ∧ doE t x = 0) → inX n t x 1 = [] from fun h => if_neg h)
      have HI2 := Lib.hid (show (x.side = 1 ∧ x.kind = 2 ∧ doE t x = 0) → inX n t x 1 = x.s.data.toList.take (doN n t x) from fun h => if_pos h)
      have HO1 := Lib.hid (show ¬ (x.side = 1 ∧ doE t x = 0) → outX t x 1 = [] from fun h => if_neg h)
      have HO2 := Lib.hid (show (x.side = 1 ∧ doE t x = 0) → outX t x 1 = doS t x from fun h => if_pos h)
      obtain ⟨E6, hE6⟩ : ∃ E, doE t x = E := ⟨_, rfl⟩
      obtain ⟨N6, hN6⟩ : ∃ E, doN n t x = E := ⟨_, rfl⟩
      obtain ⟨L6, hL6⟩ : ∃ E, doS t x = E := ⟨_, rfl⟩
      obtain ⟨S6, hS6⟩ : ∃ E, str L6 = E := ⟨_, rfl⟩
      rw [hE6, hN6, hL6, hS6] at HD
      rw [hE6, hN6] at HI2
      rw [hE6] at HI1 HO1 HO2
      rw [hL6] at HO2
      have HNs := Lib.hid hNs
      rw [hE6, hN6] at HNs
      have HS6 := Lib.hid hS6
      have HXS := Lib.hid hxs
      clear hNs hso hin hE6 hN6 hL6 hS6 hxs
      go_wp2_with fail
      go_at_call 17
      refine HD.out.mono ?_
      rintro e w6 ⟨rfl, ht6, hg6⟩
      replace d0 := hg6.cell d0 nb
      replace d1 := hg6.cell d1 nb
      replace d3 := hg6.cell d3 nb
      have HT7 := Lib.hid (ht6.below (below_alloc w6 (.cells #[.int .i64 (N6 : Int), .string S6, .int .i64 E6] 35)))
      have HG7 := Lib.hid ((HG.out.trans hg6).trans (Goes.of_below (below_alloc w6 (.cells #[.int .i64 (N6 : Int), .string S6, .int .i64 E6] 35))))
      replace d0 := keep_alloc (.cells #[.int .i64 (N6 : Int), .string S6, .int .i64 E6] 35) d0
      replace d1 := keep_alloc (.cells #[.int .i64 (N6 : Int), .string S6, .int .i64 E6] 35) d1
      replace d3 := keep_alloc (.cells #[.int .i64 (N6 : Int), .string S6, .int .i64 E6] 35) d3
      have q0 : (w6.alloc (.cells #[.int .i64 (N6 : Int), .string S6, .int .i64 E6] 35)).cell? ⟨w6.heap.size, 0, none⟩ = some (.int .i64 (N6 : Int)) := by go_simp
      have q1 : (w6.alloc (.cells #[.int .i64 (N6 : Int), .string S6, .int .i64 E6] 35)).cell? ⟨w6.heap.size, 1, none⟩ = some (.string S6) := by go_simp
      have q2 : (w6.alloc (.cells #[.int .i64 (N6 : Int), .string S6, .int .i64 E6] 35)).cell? ⟨w6.heap.size, 2, none⟩ = some (.int .i64 E6) := by go_simp
      clear ht6 hg6 HG HT HD
      by_cases hsd : x.side = 1
      · rw [hsd] at d1
        by_cases hE : E6 = 0
        · subst hE
          have ho := HO2.out ⟨hsd, rfl⟩
          by_cases hK : x.kind = 2
          · have hi := HI2.out ⟨hsd, hK, rfl⟩
            have hN := HNs.out hK rfl
            rw [ho, hi] at HS2
            obtain ⟨z1, z2⟩ := AllS.cap HS2.out
            rw [str_app, ByteArray.size_append] at z1 z2
            rw [HS6.out] at z1
            have hxs := HXS.out
            have z3 : (x.s.extract 0 N6).size ≤ 50 := by rw [ByteArray.size_extract]; omega
            have hn1 : (N6 : Int) ≤ (x.s.size : Int) := by omega
            have hn2 : ¬ (x.s.size : Int) < (N6 : Int) := by omega
            have hn3 : ¬ (N6 : Int) < 0 := by omega
            have hn4 : min (N6 : Int) (x.s.size : Int) = (N6 : Int) := by omega
            have hn5 : max (N6 : Int) 0 = (N6 : Int) := by omega
            rw [hK] at d0
            clear hsd hK ho hi hN
            generalize x.s = s at *
            go_wp2_with fail
            generalize (w6.alloc (.cells #[.int .i64 (N6 : Int), .string S6, .int .i64 0] 35)) = V7 at *
            go_quiet (fail)
            go_wp2_with fail
            go_roundw
            case rel => exact ⟨k + 1, _, inn ++ s.data.toList.take N6, out ++ L6, by omega, by go_num, by rw [str_app, ← str_take], by rw [str_app, HS6.out], Lib.hid (HT7.out.below (below_drewN (Below.refl _ _) _)), Lib.hid ⟨HS2.out.w, HS2.out.st, HS2.out.cn.mono' (by omega)⟩, Lib.hid (HG7.out.trans (Goes.of_below (below_drewN (Below.refl _ _) _)))⟩
            case measure => simp [intOf]; omega
          · have hi := HI1.out (fun h => hK h.2.1)
            rw [ho, hi, List.append_nil] at HS2
            obtain ⟨z1, z2⟩ := AllS.cap HS2.out
            rw [str_app, ByteArray.size_append, HS6.out] at z1
            have hK' : (x.kind == 2) = false := by simpa using hK
            clear hsd ho hi
            go_wp2_with fail
            go_roundw
            case rel => exact ⟨k + 1, _, inn, out ++ L6, by omega, by go_num, rfl, by rw [str_app, HS6.out], HT7, Lib.hid ⟨HS2.out.w, HS2.out.st, HS2.out.cn.mono' (by omega)⟩, HG7⟩
            case measure => simp [intOf]; omega
        · have ho := HO1.out (fun h => hE h.2)
          have hi := HI1.out (fun h => hE h.2.2)
          rw [ho, hi, List.append_nil, List.append_nil] at HS2
          have hE' : (E6 == 0) = false := by simpa using hE
          clear ho hi hsd
          go_wp2_with fail
          go_roundw
          case rel => exact ⟨k + 1, _, inn, out, by omega, by go_num, rfl, rfl, HT7, Lib.hid ⟨HS2.out.w, HS2.out.st, HS2.out.cn.mono' (by omega)⟩, HG7⟩
          case measure => simp [intOf]; omega
      · have ho := HO1.out (fun h => hsd h.1)
        have hi := HI1.out (fun h => hsd h.1)
        rw [ho, hi, List.append_nil, List.append_nil] at HS2
        have hsd' : (x.side == 1) = false := by simpa using hsd
        clear ho hi
        go_wp2_with fail
        go_roundw
        case rel => exact ⟨k + 1, _, inn, out, by omega, by go_num, rfl, rfl, HT7, Lib.hid ⟨HS2.out.w, HS2.out.st, HS2.out.cn.mono' (by omega)⟩, HG7⟩
        case measure => simp [intOf]; omega
    · obtain rfl : k = zs.length := by omega
      have hlt' : ¬ (zs.length : Int) < (zs.length : Int) := by omega
      have hil := inn_len HS.out
      have HQ0 := Lib.hid (all_start HS.out (by omega))
      have HIL := Lib.hid (show inn.length ≤ 2500 by omega)
      have hBw := goes_b HB2.out HG.out hzT
      have HBw := Lib.hid hBw
      have HLw := Lib.hid (laid_on HLv2.out HG.out lg)
      have HSw := Lib.hid (show AllS n 1 t inn out 2500 from ⟨HS.out.w, HS.out.st, HS.out.cn.mono' (by omega)⟩)
      clear hil hBw HS HG
      go_wp2
      go_loopw [11, 14] (fun q i wr => ∃ (j : Nat) (t : Tn) (out : List UInt8), j ≤ 60 ∧ i = .int .i64 (j : Int) ∧ q = .string (str out) ∧ Hid (TunAt wr T hi n t) ∧ Hid (AllS n 1 t inn out 2500) ∧ Hid (AllQ n j (t.way 1).o.length (t.way 1).i.length) ∧ Hid (Below w.heap.size w wr) ∧ Hid (Laid wr)) (fun _ i _ => 60 - (intOf i).toNat)
      case atStart => exact ⟨0, t, out, by decide, rfl, rfl, HT, HSw, HQ0, HBw, HLw⟩
      case round =>
        obtain ⟨j, t, out, hj, rfl, rfl, HT, HS, HQ, HB, HL⟩ := hrel
        by_cases hj6 : j < 60
        · have hj7 : (j : Int) < 60 := by omega
          by_cases hl : out.length < inn.length
          · have hl1 : ((str out).size : Int) < ((str inn).size : Int) := by rw [L1.str_size, L1.str_size]; omega
            obtain ⟨rs, rq⟩ := AllS.round HS.out (show sideB 1 = true from rfl) (by decide) HQ.out
            obtain ⟨rg, rm⟩ := AllS.mid HS.out (show sideB 1 = true from rfl)
            obtain ⟨z1, z2⟩ := AllS.cap rs
            have HRS := Lib.hid rs
            have HRQ := Lib.hid rq
            have HS1 := Lib.hid (rg.cn.sm (by decide))
            have HS2 := Lib.hid (rm.cn.sm (by decide))
            rw [str_app, ByteArray.size_append] at z1
            clear rs rq rg rm hl
            have HG1 := Lib.hid (tgrant_c T hi n t 1 100 wr HT.out HL.out)
            go_wp2_with fail
            go_at_call 22
            refine HG1.out.mono ?_
            rintro e w2 ⟨rfl, ht, hg⟩
            have HTa : Hid (TunAt w2 T hi n (g1 t 1)) := Lib.hid ht
            have HBa := Lib.hid (goes_b HB.out hg hzT)
            have HLa := Lib.hid (laid_on HL.out hg lg)
            clear ht hg HG1
            have HG2 := Lib.hid (tmove_c T hi n (g1 t 1) 1 100 w2 HS1.out HTa.out HLa.out)
            go_wp2_with fail
            go_at_call 23
            refine HG2.out.mono ?_
            rintro e w3 ⟨rfl, ht, hg⟩
            have HTb : Hid (TunAt w3 T hi n (m1 n t 1)) := Lib.hid ht
            have HBb := Lib.hid (goes_b HBa.out hg hzT)
            have HLb := Lib.hid (laid_on HLa.out hg lg)
            clear ht hg HG2
            have HG3 := Lib.hid (tdrain_c T hi n (m1 n t 1) 1 200 w3 HS2.out HTb.out HLb.out)
            obtain ⟨L6, hL6⟩ : ∃ L, drainS (m1 n t 1) 1 200 = L := ⟨_, rfl⟩
            rw [hL6] at HG3 HRS z1
            obtain ⟨S6, hS6⟩ : ∃ L, str L6 = L := ⟨_, rfl⟩
            have HS6 := Lib.hid hS6
            rw [hS6] at HG3 z1
            clear hL6 hS6
            go_wp2_with fail
            go_at_call 24
            refine HG3.out.mono ?_
            rintro e w4 ⟨rfl, ht, hg⟩
            have HTc : Hid (TunAt w4 T hi n (r1 n t 1)) := Lib.hid ht
            have HBc := Lib.hid (goes_b HBb.out hg hzT)
            have HLc := Lib.hid (laid_on HLb.out hg lg)
            clear ht hg HG3
            go_wp2_with fail
            go_roundw
            case rel => exact ⟨j + 1, r1 n t 1, out ++ L6, by omega, by go_num, by rw [str_app, HS6.out], HTc, HRS, HRQ, HBc, HLc⟩
            case measure => simp [intOf]; omega
          · have hl1 : ¬ ((str out).size : Int) < ((str inn).size : Int) := by rw [L1.str_size, L1.str_size]; omega
            have ho := AllS.eq HS.out hl
            rw [ho] at hl1
            subst ho
            clear hl
            go_wp2
            go_ret
            exact ⟨rfl, HB.out⟩
        · obtain rfl : j = 60 := by omega
          have ho := all_stop HS.out HQ.out
          subst ho
          go_wp2
          go_ret
          exact ⟨rfl, HB.out⟩
set_option maxRecDepth 100000 in
set_option maxHeartbeats 4000000 in
theorem all_law (n : Int) (a : Option Addr) (c : Nat) (xs : List OpV) (side : Int) (w : World) (hx : xs.length ≤ 9223372036854775807) (hA : OpVAt w.heap.size w a xs) (hL : Laid w) :
    Calls Tryz.prog 7 #[.int .i64 n, .slice a xs.length c, .int .i64 side] w fun e w' => e = .returned (.bool true) ∧ Below w.heap.size w w' := by
  rcases cap_cases n with ⟨n, rfl, h1, h2⟩ | h
  · by_cases x0 : side = 0
    · subst x0; exact all_0 n h1 h2 a c xs w hx hA hL
    by_cases x1 : side = 1
    · subst x1; exact all_1 n h1 h2 a c xs w hx hA hL
    by_cases s2 : side < 0
    · have HM := Lib.hid (fun v0 hl => Made_ok n h1 h2 none 0 [] (by simp) v0 (OpVAt.nil _ _ _) hl)
      change Hid (∀ (v0 : World) (hl : Laid v0), Calls Tryz.prog _ #[.int .i64 (n : Int), .slice none 0 0] _ _) at HM
      have HSh := Lib.hid (shown_c w hL)
      have HL0 := Lib.hid hL
      clear hL
      go_enter Tryz.func7, Tryz.ntmps7
      go_wp2_with fail
      go_at_call 10
      refine HSh.out.mono ?_
      rintro e v0 ⟨rfl, hb⟩
      have HB0 := Lib.hid hb
      have HLv0 := Lib.hid (HL0.out.on hb)
      clear hb
      go_wp2_with (go_at_call 20; refine (HM.out _ HLv0.out).mono ?_; rintro e v1 ⟨T, hi, rfl, ht, hTz, hb⟩)
      go_ret
      exact ⟨rfl, btr HB0.out hb⟩
    · have s3 : side > 1 := by omega
      have HM := Lib.hid (fun v0 hl => Made_ok n h1 h2 none 0 [] (by simp) v0 (OpVAt.nil _ _ _) hl)
      change Hid (∀ (v0 : World) (hl : Laid v0), Calls Tryz.prog _ #[.int .i64 (n : Int), .slice none 0 0] _ _) at HM
      have HSh := Lib.hid (shown_c w hL)
      have HL0 := Lib.hid hL
      clear hL
      go_enter Tryz.func7, Tryz.ntmps7
      go_wp2_with fail
      go_at_call 10
      refine HSh.out.mono ?_
      rintro e v0 ⟨rfl, hb⟩
      have HB0 := Lib.hid hb
      have HLv0 := Lib.hid (HL0.out.on hb)
      clear hb
      go_wp2_with (go_at_call 20; refine (HM.out _ HLv0.out).mono ?_; rintro e v1 ⟨T, hi, rfl, ht, hTz, hb⟩)
      go_ret
      exact ⟨rfl, btr HB0.out hb⟩
  · have HM := Lib.hid (fun W => Made_err n h (.slice none 0 0) W)
    clear h
    have HSh := Lib.hid (shown_c w hL)
    have HL0 := Lib.hid hL
    clear hL
    go_enter Tryz.func7, Tryz.ntmps7
    go_wp2_with fail
    go_at_call 10
    refine HSh.out.mono ?_
    rintro e v0 ⟨rfl, hb⟩
    have HB0 := Lib.hid hb
    have HLv0 := Lib.hid (HL0.out.on hb)
    clear hb
    go_wp2_with (go_at_call 20; refine (HM.out _).mono ?_; rintro e v1 ⟨rfl, hb⟩)
    go_ret
    exact ⟨rfl, btr HB0.out hb⟩
end Go.Proofs.YtkokcfhfgnkdfaaGreatDoor.L17

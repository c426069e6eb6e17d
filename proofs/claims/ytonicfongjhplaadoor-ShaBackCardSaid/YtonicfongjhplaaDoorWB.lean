/- ShaBack. -/
import Derived.Test.YtonicfongjhplaaDoorV
namespace Go.Proofs.YtonicfongjhplaaDoor
open Go.RowKit Go.Shelf
attribute [local go_sem] Oper.semAt_some

theorem un_hex (s : ByteArray) (hs : s.size ≤ 50000) (w : World) : Calls Tryd.prog 15 #[.string (ofL (hexL (bL s)))] w fun r w' => r = .returned (.tuple #[.string s, .int .i64 0]) ∧ Below w.heap.size w w' := by
  have h : unhexL (bL (ofL (hexL (bL s)))) = some (bL s) := by rw [bL_ofL _ (hexL_lt s), unhexL_hexL _ (bL_lt s)]
  have := Unhex_c (ofL (hexL (bL s))) (by rw [ofL_size, hexL_length, bL_length]; omega) w
  rw [(un_some h).1, (un_some h).2, ofL_bL] at this
  exact this
set_option maxRecDepth 100000 in
set_option maxHeartbeats 8000000 in
theorem back_law (s0 : ByteArray) (w : World) (hT : Tabs w) : Calls Tryd.prog 6 #[.string s0] w fun x w' => x = .returned (.bool true) ∧ Below w.heap.size w w' := by
  have SH := Lib.hid (shown_c w hT)
  have HT := Lib.hid hT
  have K1 := Lib.hid (fun W => cut3_c s0 W)
  have hs := cut3_size s0
  generalize cut3 s0 = s at *
  have X1 := Lib.hid (fun W => Hex_c s (by omega) W)
  have U1 := Lib.hid (fun W => un_hex s (by omega) W)
  have z1 : (ofL (hexL (bL s))).size = 2 * s.size := by rw [ofL_size, hexL_length, bL_length]
  have S1 := Lib.hid (fun W h => Sum_c s (by omega) W h)
  have z2 : (ofL (sumL (bL s))).size = 32 := by rw [ofL_size, sumL_length]
  generalize ofL (sumL (bL s)) = Q at *
  have hm : IntKind.i64.wrap (2 * (s.size : Int)) = 2 * (s.size : Int) := IntWalk.i64_in _ (by omega)
  have z1' : (((ofL (hexL (bL s))).size : Nat) : Int) = 2 * (s.size : Int) := by rw [z1]; omega
  clear hT z1
  generalize ofL (hexL (bL s)) = A at *
  cases hu : unhexL (bL s) with
  | none =>
    have U2 := fun W => Unhex_c s (by omega) W
    rw [(un_none hu).1, (un_none hu).2] at U2
    have U3 := Lib.hid U2
    clear U2 hu
    go_enter Tryd.func6, Tryd.ntmps6
    have B0 := Lib.hid (Below.refl w.heap.size w)
    go_wp2_with fail
    refine (SH.out).mono ?_; rintro e w1 ⟨rfl, hb⟩
    have B1 := Lib.hid (btr B0.out hb); clear hb
    go_wp2_with fail
    refine (K1.out _).mono ?_; rintro e w2 ⟨rfl, hb⟩
    have B2 := Lib.hid (btr B1.out hb); clear hb
    go_wp2_with fail
    refine (X1.out _).mono ?_; rintro e w3 ⟨rfl, hb⟩
    have B3 := Lib.hid (btr B2.out hb); clear hb
    go_wp2_with fail
    refine (U1.out _).mono ?_; rintro e w4 ⟨rfl, hb⟩
    have B4 := Lib.hid (btr B3.out hb); clear hb
    go_wp2_with fail
    refine (U3.out _).mono ?_; rintro e w5 ⟨rfl, hb⟩
    have B5 := Lib.hid (btr B4.out hb); clear hb
    have HT5 := Lib.hid (HT.out.on B5.out)
    go_wp2_with (first | (with_reducible refine (S1.out _ HT5.out).mono ?_; rintro e w6 ⟨rfl, hb6⟩))
    go_ret
    exact ⟨ret_bool (by simp), btr B5.out hb6⟩
  | some v =>
    have U2 := fun W => Unhex_c s (by omega) W
    rw [(un_some hu).1, (un_some hu).2] at U2
    obtain ⟨q1, q2, q3⟩ := hexL_unhexL _ _ hu
    rw [bL_length] at q2
    have X2 := fun W => Hex_c (ofL v) (by rw [ofL_size]; omega) W
    rw [bL_ofL v q3, q1, ofL_bL] at X2
    generalize ofL v = V at *
    have U3 := Lib.hid U2
    have X3 := Lib.hid X2
    clear U2 hu X2 q1 q2 q3
    go_enter Tryd.func6, Tryd.ntmps6
    have B0 := Lib.hid (Below.refl w.heap.size w)
    go_wp2_with fail
    refine (SH.out).mono ?_; rintro e w1 ⟨rfl, hb⟩
    have B1 := Lib.hid (btr B0.out hb); clear hb
    go_wp2_with fail
    refine (K1.out _).mono ?_; rintro e w2 ⟨rfl, hb⟩
    have B2 := Lib.hid (btr B1.out hb); clear hb
    go_wp2_with fail
    refine (X1.out _).mono ?_; rintro e w3 ⟨rfl, hb⟩
    have B3 := Lib.hid (btr B2.out hb); clear hb
    go_wp2_with fail
    refine (U1.out _).mono ?_; rintro e w4 ⟨rfl, hb⟩
    have B4 := Lib.hid (btr B3.out hb); clear hb
    go_wp2_with fail
    refine (U3.out _).mono ?_; rintro e w5 ⟨rfl, hb⟩
    have B5 := Lib.hid (btr B4.out hb); clear hb
    go_wp2_with (first | (with_reducible refine (X3.out _).mono ?_; rintro e w6 ⟨rfl, hb6⟩) | (with_reducible refine (S1.out _ (HT.out.on (btr B5.out hb6))).mono ?_; rintro e w7 ⟨rfl, hb7⟩))
    go_ret
    exact ⟨ret_bool (by simp), btr (btr B5.out hb6) hb7⟩
end Go.Proofs.YtonicfongjhplaaDoor

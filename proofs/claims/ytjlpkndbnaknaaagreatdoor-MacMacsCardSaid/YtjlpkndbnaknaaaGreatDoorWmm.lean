/- MacMacs. -/
import Derived.Test.YtjlpkndbnaknaaaGreatDoorRf
namespace Go.Proofs.YtjlpkndbnaknaaaGreatDoor
open Go.RowKit Go.Shelf
attribute [local go_sem] Oper.semAt_some

theorem bytes_ne {s t : ByteArray} (h : ¬ s = t) : (s.toList == t.toList) = false ∧ ¬ s.toList = t.toList := by
  have h2 : ¬ s.toList = t.toList := by
    intro e
    apply h
    rw [Go.ByteArray.toList_eq, Go.ByteArray.toList_eq] at e
    exact ByteArray.ext (Array.toList_inj.1 e)
  exact ⟨beq_eq_false_iff_ne.2 h2, h2⟩
theorem mac_two (key s : ByteArray) : ∃ A E, macV key s = .tuple #[.string A, .int .i64 E] := by
  unfold macV
  cases isKeyB key
  · exact ⟨_, _, rfl⟩
  · exact ⟨_, _, rfl⟩
set_option maxRecDepth 100000 in
set_option maxHeartbeats 4000000 in
theorem macs_law (k0 s0 t0 : ByteArray) (w : World) (hL : Lay w) (hC : TabC w) : Calls Tryz.prog 3 #[.string k0, .string s0, .string t0] w fun x w' => x = .returned (.bool true) ∧ Below w.heap.size w w' := by
  have HL := Lib.hid hL
  have HC := Lib.hid hC
  have SH := Lib.hid (shown_c w hL)
  have K1 := Lib.hid (fun W => cut2_c k0 W)
  have K2 := Lib.hid (fun W => cut2_c s0 W)
  have K3 := Lib.hid (fun W => cut2_c t0 W)
  have hk := cut2_size k0
  have hs := cut2_size s0
  have ht := cut2_size t0
  generalize cut2 k0 = k at *
  generalize cut2 s0 = s at *
  generalize cut2 t0 = t at *
  have M1 := Lib.hid (fun W h => Mac_c k s (by omega) W h)
  have M2 := Lib.hid (fun W h => rMac_c k s (by omega) W h)
  have R1 := Lib.hid (fun W => Right_c k W)
  have R2 := Lib.hid (fun W => rRight_c k W)
  have Z1 := Lib.hid (fun W => Same_c s t (by omega) (by omega) W)
  have Z2 := Lib.hid (fun W => Same_c s s (by omega) (by omega) W)
  rw [show decide (bL s = bL s) = true from decide_eq_true rfl] at Z2
  obtain ⟨A, E, hAE⟩ := mac_two k s
  rw [hAE] at M1 M2
  generalize isKeyB k = kb at *
  clear hAE hL hC
  by_cases hst : s = t
  · subst hst
    clear Z1
    go_enter Tryz.func3, Tryz.ntmps3
    have B0 := Lib.hid (Below.refl w.heap.size w)
    go_wp2_with fail
    (with_reducible refine (SH.out).mono ?_); rintro e w1 ⟨rfl, hb⟩
    have B1 := Lib.hid (btr B0.out hb); clear hb
    go_wp2_with fail
    (with_reducible refine (K1.out _).mono ?_); rintro e w2 ⟨rfl, hb⟩
    have B2 := Lib.hid (btr B1.out hb); clear hb
    go_wp2_with fail
    (with_reducible refine (K2.out _).mono ?_); rintro e w3 ⟨rfl, hb⟩
    have B3 := Lib.hid (btr B2.out hb); clear hb
    go_wp2_with fail
    (with_reducible refine (K3.out _).mono ?_); rintro e w4 ⟨rfl, hb⟩
    have B4 := Lib.hid (btr B3.out hb); clear hb
    go_wp2_with fail
    (with_reducible refine (M1.out _ (HL.out.on B4.out)).mono ?_); rintro e w5 ⟨rfl, hb⟩
    have B5 := Lib.hid (btr B4.out hb); clear hb
    go_wp2_with fail
    (with_reducible refine (M2.out _ (HC.out.on B5.out)).mono ?_); rintro e w6 ⟨rfl, hb⟩
    have B6 := Lib.hid (btr B5.out hb); clear hb
    go_wp2_with fail
    (with_reducible refine (R1.out _).mono ?_); rintro e w7 ⟨rfl, hb⟩
    have B7 := Lib.hid (btr B6.out hb); clear hb
    go_wp2_with fail
    (with_reducible refine (R2.out _).mono ?_); rintro e w8 ⟨rfl, hb⟩
    have B8 := Lib.hid (btr B7.out hb); clear hb
    go_wp2_with fail
    (with_reducible refine (Z2.out _).mono ?_); rintro e w9 ⟨rfl, hb⟩
    have B9 := Lib.hid (btr B8.out hb); clear hb
    go_wp2_with fail
    (with_reducible refine (Z2.out _).mono ?_); rintro e w10 ⟨rfl, hb⟩
    have B10 := Lib.hid (btr B9.out hb); clear hb
    go_wp2
    go_ret
    exact ⟨ret_bool (by first | rfl | simp), B10.out⟩
  · have e : decide (bL s = bL t) = false := decide_eq_false (fun h => hst (bL_inj h))
    rw [e] at Z1
    obtain ⟨n1, n2⟩ := bytes_ne hst
    clear e hst
    go_enter Tryz.func3, Tryz.ntmps3
    have B0 := Lib.hid (Below.refl w.heap.size w)
    go_wp2_with fail
    (with_reducible refine (SH.out).mono ?_); rintro e w1 ⟨rfl, hb⟩
    have B1 := Lib.hid (btr B0.out hb); clear hb
    go_wp2_with fail
    (with_reducible refine (K1.out _).mono ?_); rintro e w2 ⟨rfl, hb⟩
    have B2 := Lib.hid (btr B1.out hb); clear hb
    go_wp2_with fail
    (with_reducible refine (K2.out _).mono ?_); rintro e w3 ⟨rfl, hb⟩
    have B3 := Lib.hid (btr B2.out hb); clear hb
    go_wp2_with fail
    (with_reducible refine (K3.out _).mono ?_); rintro e w4 ⟨rfl, hb⟩
    have B4 := Lib.hid (btr B3.out hb); clear hb
    go_wp2_with fail
    (with_reducible refine (M1.out _ (HL.out.on B4.out)).mono ?_); rintro e w5 ⟨rfl, hb⟩
    have B5 := Lib.hid (btr B4.out hb); clear hb
    go_wp2_with fail
    (with_reducible refine (M2.out _ (HC.out.on B5.out)).mono ?_); rintro e w6 ⟨rfl, hb⟩
    have B6 := Lib.hid (btr B5.out hb); clear hb
    go_wp2_with fail
    (with_reducible refine (R1.out _).mono ?_); rintro e w7 ⟨rfl, hb⟩
    have B7 := Lib.hid (btr B6.out hb); clear hb
    go_wp2_with fail
    (with_reducible refine (R2.out _).mono ?_); rintro e w8 ⟨rfl, hb⟩
    have B8 := Lib.hid (btr B7.out hb); clear hb
    go_wp2_with fail
    (with_reducible refine (Z1.out _).mono ?_); rintro e w9 ⟨rfl, hb⟩
    have B9 := Lib.hid (btr B8.out hb); clear hb
    go_wp2_with fail
    (with_reducible refine (Z2.out _).mono ?_); rintro e w10 ⟨rfl, hb⟩
    have B10 := Lib.hid (btr B9.out hb); clear hb
    go_wp2
    go_ret
    exact ⟨ret_bool (by first | rfl | simp), B10.out⟩
end Go.Proofs.YtjlpkndbnaknaaaGreatDoor

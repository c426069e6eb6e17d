/- MacAsks. -/
import Derived.Test.YtjlpkndbnaknaaaGreatDoorRf
namespace Go.Proofs.YtjlpkndbnaknaaaGreatDoor
open Go.RowKit Go.Shelf
attribute [local go_sem] Oper.semAt_some

theorem ans_two (key ch name : ByteArray) : ∃ A E, ansV key ch name = .tuple #[.string A, .int .i64 E] := by
  unfold ansV
  cases isKeyB key
  · exact ⟨_, _, rfl⟩
  · cases isChB ch
    · exact ⟨_, _, rfl⟩
    · exact ⟨_, _, rfl⟩
theorem ch_pair (a b : Int) : ∃ A E, chV a b = .tuple #[.string A, .int .i64 E] := by
  unfold chV
  cases isAskB a
  · exact ⟨_, _, rfl⟩
  · cases isAskB b
    · exact ⟨_, _, rfl⟩
    · exact ⟨_, _, rfl⟩
set_option maxRecDepth 100000 in
set_option maxHeartbeats 4000000 in
theorem asks_law (a b : Int) (k0 s0 t0 : ByteArray) (w : World) (hL : Lay w) (hC : TabC w) : Calls Tryz.prog 4 #[.int .i64 a, .int .i64 b, .string k0, .string s0, .string t0] w fun x w' => x = .returned (.bool true) ∧ Below w.heap.size w w' := by
  have HL := Lib.hid hL
  have HC := Lib.hid hC
  have SH := Lib.hid (shown_c w hL)
  have K1 := Lib.hid (fun W => cut2_c k0 W)
  have K2 := Lib.hid (fun W => cut2_c s0 W)
  have K3 := Lib.hid (fun W => cut2_c t0 W)
  have hk := cut2_size k0
  have hs := cut2_size s0
  have ht := cut2_size t0
  generalize cut2 k0 = k at *
  generalize cut2 s0 = s at *
  generalize cut2 t0 = t at *
  have A1 := Lib.hid (fun W h => Answer_c k s t (by omega) (by omega) W h)
  have A2 := Lib.hid (fun W h => rAnswer_c k s t (by omega) W h)
  have C1 := Lib.hid (fun W h => Challenge_c a b W h)
  have C2 := Lib.hid (fun W h => rChallenge_c a b W h)
  obtain ⟨A, E, hAE⟩ := ans_two k s t
  rw [hAE] at A1 A2
  obtain ⟨D, F, hDF⟩ := ch_pair a b
  rw [hDF] at C1 C2
  clear hAE hDF hL hC
  go_enter Tryz.func4, Tryz.ntmps4
  have B0 := Lib.hid (Below.refl w.heap.size w)
  go_wp2_with fail
  (with_reducible refine (SH.out).mono ?_); rintro e w1 ⟨rfl, hb⟩
  have B1 := Lib.hid (btr B0.out hb); clear hb
  go_wp2_with fail
  (with_reducible refine (K1.out _).mono ?_); rintro e w2 ⟨rfl, hb⟩
  have B2 := Lib.hid (btr B1.out hb); clear hb
  go_wp2_with fail
  (with_reducible refine (K2.out _).mono ?_); rintro e w3 ⟨rfl, hb⟩
  have B3 := Lib.hid (btr B2.out hb); clear hb
  go_wp2_with fail
  (with_reducible refine (K3.out _).mono ?_); rintro e w4 ⟨rfl, hb⟩
  have B4 := Lib.hid (btr B3.out hb); clear hb
  go_wp2_with fail
  (with_reducible refine (C1.out _ (HL.out.on B4.out)).mono ?_); rintro e w5 ⟨rfl, hb⟩
  have B5 := Lib.hid (btr B4.out hb); clear hb
  go_wp2_with fail
  (with_reducible refine (C2.out _ (HC.out.on B5.out)).mono ?_); rintro e w6 ⟨rfl, hb⟩
  have B6 := Lib.hid (btr B5.out hb); clear hb
  go_wp2_with fail
  (with_reducible refine (A1.out _ (HL.out.on B6.out)).mono ?_); rintro e w7 ⟨rfl, hb⟩
  have B7 := Lib.hid (btr B6.out hb); clear hb
  go_wp2_with fail
  (with_reducible refine (A2.out _ (HC.out.on B7.out)).mono ?_); rintro e w8 ⟨rfl, hb⟩
  have B8 := Lib.hid (btr B7.out hb); clear hb
  go_wp2
  go_ret
  exact ⟨ret_bool (by first | rfl | simp), B8.out⟩
end Go.Proofs.YtjlpkndbnaknaaaGreatDoor

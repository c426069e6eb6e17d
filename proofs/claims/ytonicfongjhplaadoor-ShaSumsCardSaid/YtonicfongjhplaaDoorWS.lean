/- ShaSums. -/
import Derived.Test.YtonicfongjhplaaDoorV
import Derived.Test.YtonicfongjhplaaDoorRF
namespace Go.Proofs.YtonicfongjhplaaDoor
open Go.RowKit Go.Shelf
attribute [local go_sem] Oper.semAt_some

set_option maxRecDepth 100000 in
set_option maxHeartbeats 8000000 in
theorem sums_law (s0 : ByteArray) (w : World) (hT : Tabs w) (hC : TabC w) : Calls Tryd.prog 3 #[.string s0] w fun x w' => x = .returned (.bool true) ∧ Below w.heap.size w w' := by
  have SH := Lib.hid (shown_c w hT)
  have K1 := Lib.hid (fun W => cut3_c s0 W)
  have hs := cut3_size s0
  have HT := Lib.hid hT
  have HC := Lib.hid hC
  generalize cut3 s0 = s at *
  have S1 := Lib.hid (fun W h => Sum_c s (by omega) W h)
  have S2 := Lib.hid (fun W h => rSum_c s (by omega) W h)
  have P1 := Lib.hid (fun W => Pad_c s (by omega) W)
  have P2 := Lib.hid (fun W => rPad_c s (by omega) W)
  obtain ⟨A, hA⟩ : ∃ A, ofL (sumL (bL s)) = A := ⟨_, rfl⟩
  obtain ⟨H, hH⟩ : ∃ A, ofL (padL (bL s)) = A := ⟨_, rfl⟩
  rw [hA] at S1 S2
  rw [hH] at P1 P2
  clear hA hH hT hC
  go_enter Tryd.func3, Tryd.ntmps3
  have B0 := Lib.hid (Below.refl w.heap.size w)
  go_wp2_with fail
  refine (SH.out).mono ?_; rintro e w1 ⟨rfl, hb⟩
  have B1 := Lib.hid (btr B0.out hb); clear hb
  go_wp2_with fail
  refine (K1.out _).mono ?_; rintro e w2 ⟨rfl, hb⟩
  have B2 := Lib.hid (btr B1.out hb); clear hb
  have HT2 := Lib.hid (HT.out.on B2.out)
  have HC2 := Lib.hid (HC.out.on B2.out)
  go_wp2_with (first | (with_reducible refine (S1.out _ HT2.out).mono ?_; rintro e w3 ⟨rfl, hb3⟩) | (with_reducible refine (S2.out _ (HC2.out.on hb3)).mono ?_; rintro e w4 ⟨rfl, hb4⟩) | (with_reducible refine (P1.out _).mono ?_; rintro e w5 ⟨rfl, hb5⟩) | (with_reducible refine (P2.out _).mono ?_; rintro e w6 ⟨rfl, hb6⟩))
  go_ret
  exact ⟨ret_bool (by simp), btr (btr (btr (btr B2.out hb3) hb4) hb5) hb6⟩
end Go.Proofs.YtonicfongjhplaaDoor

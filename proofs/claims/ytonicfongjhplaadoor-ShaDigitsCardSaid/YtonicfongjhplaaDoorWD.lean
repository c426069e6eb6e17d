/- ShaDigits. -/
import Derived.Test.YtonicfongjhplaaDoorV
import Derived.Test.YtonicfongjhplaaDoorRB
import Derived.Test.YtonicfongjhplaaDoorRC
namespace Go.Proofs.YtonicfongjhplaaDoor
open Go.RowKit Go.Shelf
attribute [local go_sem] Oper.semAt_some

set_option maxRecDepth 100000 in
set_option maxHeartbeats 8000000 in
theorem digits_law (s0 : ByteArray) (w : World) (hT : Tabs w) : Calls Tryd.prog 4 #[.string s0] w fun x w' => x = .returned (.bool true) ∧ Below w.heap.size w w' := by
  have SH := Lib.hid (shown_c w hT)
  have K1 := Lib.hid (fun W => cut3_c s0 W)
  have hs := cut3_size s0
  generalize cut3 s0 = s at *
  have U1 := Lib.hid (fun W => Unhex_c s (by omega) W)
  have U2 := Lib.hid (fun W => rUnhex_c s (by omega) W)
  have X1 := Lib.hid (fun W => Hex_c s (by omega) W)
  have X2 := Lib.hid (fun W => rHex_c s (by omega) W)
  obtain ⟨A, hA⟩ : ∃ A, unS s = A := ⟨_, rfl⟩
  obtain ⟨E, hE⟩ : ∃ A, unE s = A := ⟨_, rfl⟩
  obtain ⟨H, hH⟩ : ∃ A, ofL (hexL (bL s)) = A := ⟨_, rfl⟩
  rw [hA, hE] at U1 U2
  rw [hH] at X1 X2
  clear hA hE hH hT
  go_enter Tryd.func4, Tryd.ntmps4
  have B0 := Lib.hid (Below.refl w.heap.size w)
  go_wp2_with fail
  refine (SH.out).mono ?_; rintro e w1 ⟨rfl, hb⟩
  have B1 := Lib.hid (btr B0.out hb); clear hb
  go_wp2_with fail
  refine (K1.out _).mono ?_; rintro e w2 ⟨rfl, hb⟩
  have B2 := Lib.hid (btr B1.out hb); clear hb
  go_wp2_with fail
  refine (U1.out _).mono ?_; rintro e w3 ⟨rfl, hb⟩
  have B3 := Lib.hid (btr B2.out hb); clear hb
  go_wp2_with fail
  refine (U2.out _).mono ?_; rintro e w4 ⟨rfl, hb⟩
  have B4 := Lib.hid (btr B3.out hb); clear hb
  go_wp2_with (first | (with_reducible refine (X1.out _).mono ?_; rintro e w5 ⟨rfl, hb5⟩) | (with_reducible refine (X2.out _).mono ?_; rintro e w6 ⟨rfl, hb6⟩))
  go_ret
  exact ⟨ret_bool (by simp), btr (btr B4.out hb5) hb6⟩
end Go.Proofs.YtonicfongjhplaaDoor

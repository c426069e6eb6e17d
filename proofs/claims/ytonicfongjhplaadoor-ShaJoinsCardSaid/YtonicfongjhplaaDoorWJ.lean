/- ShaJoins. -/
import Derived.Test.YtonicfongjhplaaDoorV
namespace Go.Proofs.YtonicfongjhplaaDoor
open Go.RowKit Go.Shelf
attribute [local go_sem] Oper.semAt_some

theorem hex_app (s t : ByteArray) : ofL (hexL (bL (s ++ t))) = ofL (hexL (bL s)) ++ ofL (hexL (bL t)) := by rw [bL_append, hexL_append, ofL_append]
theorem hex_size (s : ByteArray) : (ofL (hexL (bL s))).size = 2 * s.size := by rw [ofL_size, hexL_length, bL_length]
set_option maxRecDepth 100000 in
set_option maxHeartbeats 8000000 in
theorem joins_law (s0 t0 : ByteArray) (w : World) (hT : Tabs w) : Calls Tryd.prog 7 #[.string s0, .string t0] w fun x w' => x = .returned (.bool true) ∧ Below w.heap.size w w' := by
  have SH := Lib.hid (shown_c w hT)
  have K1 := Lib.hid (fun W => cut3_c s0 W)
  have K2 := Lib.hid (fun W => cut3_c t0 W)
  have hs := cut3_size s0
  have ht := cut3_size t0
  generalize cut3 s0 = s at *
  generalize cut3 t0 = t at *
  have hst : (s ++ t).size = s.size + t.size := ByteArray.size_append
  have X1 := fun W => Hex_c (s ++ t) (by omega) W
  rw [hex_app] at X1
  have X2 := Lib.hid (fun W => Hex_c s (by omega) W)
  have X3 := Lib.hid (fun W => Hex_c t (by omega) W)
  have z1 := hex_size s
  have z2 := hex_size t
  generalize ofL (hexL (bL s)) = A at *
  generalize ofL (hexL (bL t)) = B at *
  have Y1 := Lib.hid X1
  have n1 : ¬ 9223372036854775807 < s.size + t.size := by omega
  have n2 : ¬ 9223372036854775807 < A.size + B.size := by omega
  clear X1 z1 z2 hst hT
  go_enter Tryd.func7, Tryd.ntmps7
  have B0 := Lib.hid (Below.refl w.heap.size w)
  go_wp2_with fail
  refine (SH.out).mono ?_; rintro e w1 ⟨rfl, hb⟩
  have B1 := Lib.hid (btr B0.out hb); clear hb
  go_wp2_with fail
  refine (K1.out _).mono ?_; rintro e w2 ⟨rfl, hb⟩
  have B2 := Lib.hid (btr B1.out hb); clear hb
  go_wp2_with fail
  refine (K2.out _).mono ?_; rintro e w3 ⟨rfl, hb⟩
  have B3 := Lib.hid (btr B2.out hb); clear hb
  go_wp2_with (first | (with_reducible refine (Y1.out _).mono ?_; rintro e w4 ⟨rfl, hb4⟩) | (with_reducible refine (X2.out _).mono ?_; rintro e w5 ⟨rfl, hb5⟩) | (with_reducible refine (X3.out _).mono ?_; rintro e w6 ⟨rfl, hb6⟩))
  go_ret
  exact ⟨ret_bool (by simp), btr (btr (btr B3.out hb4) hb5) hb6⟩
end Go.Proofs.YtonicfongjhplaaDoor

/- Wtu -/
import Derived.Test.YtikpmkidfppknaaGreatDoorZ13
/- CredTurns. -/
namespace Go.Proofs.YtikpmkidfppknaaGreatDoor
open Go.RowKit Go.Shelf
attribute [local go_sem] Oper.semAt_some

set_option maxRecDepth 100000 in
set_option maxHeartbeats 4000000 in
theorem turns_law (a0 : Option Addr) (cap0 : Nat) (l0 : List Crd) (ka0 : ByteArray) (now overlap span id : Int) (hid : -9223372036854775808 ≤ id ∧ id ≤ 9223372036854775807) (w : World) (hs0 : l0.length ≤ 9223372036854775807) (hA0 : CrdAt w.heap.size w a0 l0) (hL : Lay w) :
    Calls Tryz.prog 3 #[.slice a0 l0.length cap0, .string ka0, .int .i64 now, .int .i64 overlap, .int .i64 span, .int .i64 id] w fun y w' => y = .returned (.bool true) ∧ Below w.heap.size w w' := by
  have HL := Lib.hid hL
  have HS := Lib.hid (shown_c w hL)
  have A0_0 := Lib.hid hA0
  have HF := Lib.hid (fun W h => few_w a0 cap0 l0 hs0 W h)
  have HC := Lib.hid (fun W => cut1_c ka0 W)
  have hl6 := fewL_len l0
  generalize fewL l0 = l at *
  generalize cut1 ka0 = ka at *
  have hll : l.length ≤ 100000 := by omega
  have HR1 := Lib.hid (fun a c W h1 h2 => rot_w a c l hll ka now overlap span W h1 h2)
  have HR2 := Lib.hid (fun a c W h1 => rRotate_c a c l hll ka now overlap span W h1)
  have HE1 := Lib.hid (fun a c W h1 h2 => end_w a c l hll id now hid W h1 h2)
  have HE2 := Lib.hid (fun a c W h1 => rEnd_c a c l hll id now W h1)
  have hm1 : (rotM l ka now overlap span).length ≤ 100000 := by have := @rotM_len l ka now overlap span; omega
  have hm2 : (endM l id now).length ≤ 100000 := by
    unfold endM
    split
    · have := chL_len (endS now id) (endD now id) l; omega
    · exact Nat.zero_le _
  have HS1 := Lib.hid (fun a a2 c c2 W h1 h2 => rSame_c a a2 c c2 _ hm1 W h1 h2)
  have HS2 := Lib.hid (fun a a2 c c2 W h1 h2 => rSame_c a a2 c c2 _ hm2 W h1 h2)
  generalize rotM l ka now overlap span = M1 at *
  generalize rotI l ka now overlap span = I1 at *
  generalize rotN l ka now overlap span = N1 at *
  generalize endM l id now = M2 at *
  generalize endN l id now = N2 at *
  have B0 := Lib.hid (Below.refl w.heap.size w)
  clear hL hA0 hid
  go_enter Tryz.func3, Tryz.ntmps3
  go_wp2_with fail
  (with_reducible refine (HS.out).mono ?_); rintro e w1 ⟨rfl, hb⟩
  have B1 := Lib.hid (btr B0.out hb)
  have A0_1 := Lib.hid (A0_0.out.on hb)
  clear hb
  go_wp2_with fail
  (with_reducible refine (HF.out _ A0_1.out).mono ?_); rintro e w2 ⟨a1, q1, rfl, hA, hb⟩
  have B2 := Lib.hid (btr B1.out hb)
  have A1_2 := Lib.hid hA
  clear hA
  clear hb
  go_wp2_with fail
  (with_reducible refine (HC.out _).mono ?_); rintro e w3 ⟨rfl, hb⟩
  have B3 := Lib.hid (btr B2.out hb)
  have A1_3 := Lib.hid (A1_2.out.on hb)
  clear hb
  go_wp2_with fail
  (with_reducible refine (HR1.out _ _ _ A1_3.out (HL.out.on B3.out).et).mono ?_); rintro e w4 ⟨a2, q2, rfl, hA, hb⟩
  have B4 := Lib.hid (btr B3.out hb)
  have A1_4 := Lib.hid (A1_3.out.on hb)
  have A2_4 := Lib.hid hA
  clear hA
  clear hb
  go_wp2_with fail
  (with_reducible refine (HR2.out _ _ _ A1_4.out).mono ?_); rintro e w5 ⟨a3, q3, rfl, hA, hb⟩
  have B5 := Lib.hid (btr B4.out hb)
  have A1_5 := Lib.hid (A1_4.out.on hb)
  have A2_5 := Lib.hid (A2_4.out.on hb)
  have A3_5 := Lib.hid hA
  clear hA
  clear hb
  go_wp2_with fail
  (with_reducible refine (HE1.out _ _ _ A1_5.out (HL.out.on B5.out).et).mono ?_); rintro e w6 ⟨a4, q4, rfl, hA, hb⟩
  have B6 := Lib.hid (btr B5.out hb)
  have A1_6 := Lib.hid (A1_5.out.on hb)
  have A2_6 := Lib.hid (A2_5.out.on hb)
  have A3_6 := Lib.hid (A3_5.out.on hb)
  have A4_6 := Lib.hid hA
  clear hA
  clear hb
  go_wp2_with fail
  (with_reducible refine (HE2.out _ _ _ A1_6.out).mono ?_); rintro e w7 ⟨a5, q5, rfl, hA, hb⟩
  have B7 := Lib.hid (btr B6.out hb)
  have A2_7 := Lib.hid (A2_6.out.on hb)
  have A3_7 := Lib.hid (A3_6.out.on hb)
  have A4_7 := Lib.hid (A4_6.out.on hb)
  have A5_7 := Lib.hid hA
  clear hA
  clear hb
  go_wp2_with fail
  (with_reducible refine (HS1.out _ _ _ _ _ A2_7.out A3_7.out).mono ?_); rintro e w8 ⟨rfl, hb⟩
  have B8 := Lib.hid (btr B7.out hb)
  have A4_8 := Lib.hid (A4_7.out.on hb)
  have A5_8 := Lib.hid (A5_7.out.on hb)
  clear hb
  go_wp2_with fail
  (with_reducible refine (HS2.out _ _ _ _ _ A4_8.out A5_8.out).mono ?_); rintro e w9 ⟨rfl, hb⟩
  have B9 := Lib.hid (btr B8.out hb)
  clear hb
  go_wp2
  go_ret
  exact ⟨ret_bool (by first | rfl | (simp; done)), B9.out⟩
end Go.Proofs.YtikpmkidfppknaaGreatDoor

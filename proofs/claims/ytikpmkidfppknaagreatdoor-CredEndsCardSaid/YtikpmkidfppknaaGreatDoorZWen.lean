/- Wen -/
import Derived.Test.YtikpmkidfppknaaGreatDoorZ11
/- CredEnds. -/
namespace Go.Proofs.YtikpmkidfppknaaGreatDoor
open Go.RowKit Go.Shelf
attribute [local go_sem] Oper.semAt_some

set_option maxRecDepth 100000 in
set_option maxHeartbeats 4000000 in
theorem ends_law (a0 : Option Addr) (cap0 : Nat) (l0 : List Crd) (id now at_ : Int) (hid : -9223372036854775808 ≤ id ∧ id ≤ 9223372036854775807) (w : World) (hs0 : l0.length ≤ 9223372036854775807) (hA0 : CrdAt w.heap.size w a0 l0) (hL : Lay w) :
    Calls Tryz.prog 5 #[.slice a0 l0.length cap0, .int .i64 id, .int .i64 now, .int .i64 at_] w fun y w' => y = .returned (.bool true) ∧ Below w.heap.size w w' := by
  have HL := Lib.hid hL
  have HS := Lib.hid (shown_c w hL)
  have A0_0 := Lib.hid hA0
  have HF := Lib.hid (fun W h => few_w a0 cap0 l0 hs0 W h)
  have hl6 := fewL_len l0
  generalize fewL l0 = l at *
  have HR := Lib.hid (fun a c W h1 h2 => end_w a c l (by omega) id now hid W h1 h2)
  have B0 := Lib.hid (Below.refl w.heap.size w)
  clear hL hA0 hid
  rcases end_two l id now with ⟨h1, f1, f2, f3, h4⟩ | ⟨h1, h4⟩
  · have hrr := end_right (id := id) f1 f2
    have hml := right_len hrr
    have HKEEP := Lib.hid (fun x (hx : x ∈ holdL l at_) (he : ¬ x.i = id) => end_keep f1 f2 hx he)
    have HWAS := Lib.hid (fun y (hy : y ∈ holdL (chL (endS now id) (endD now id) l) at_) => end_was f1 f2 f3 hy)
    have HGONE := Lib.hid (fun h : now ≤ at_ => end_gone (id := id) f1 f2 h)
    rw [h1, h4] at HR
    have HFI := Lib.hid (fun a c W (h : CrdAt W.heap.size W a l) => hold_w a c l (by omega) at_ W h)
    have hfl := hold_len l at_
    generalize chL (endS now id) (endD now id) l = M at *
    have HRT := Lib.hid (fun a c W (h : CrdAt W.heap.size W a M) => by have := cRight_c a c M (by omega) W h; rw [hrr] at this; exact this)
    have HTH := Lib.hid (fun a c W (h : CrdAt W.heap.size W a M) => hold_w a c M (by omega) at_ W h)
    have htl := hold_len M at_
    generalize holdL M at_ = Is at *
    generalize holdL l at_ = Wa at *
    have HII := Lib.hid (fun a c i W (h : CrdAt W.heap.size W a Is) => in_c a c Is (by omega) i W h)
    have HIW := Lib.hid (fun a c i W (h : CrdAt W.heap.size W a Wa) => in_c a c Wa (by omega) i W h)
    have hwl : Wa.length ≤ 100000 := by omega
    have hil : Is.length ≤ 100000 := by omega
    clear h1 h4 f1 f2 f3 hrr hfl htl hl6 hml
    go_enter Tryz.func5, Tryz.ntmps5
    go_wp2_with fail
    (with_reducible refine (HS.out).mono ?_); rintro e w1 ⟨rfl, hb⟩
    have B1 := Lib.hid (btr B0.out hb)
    have A0_1 := Lib.hid (A0_0.out.on hb)
    clear hb
    go_wp2_with fail
    (with_reducible refine (HF.out _ A0_1.out).mono ?_); rintro e w2 ⟨a1, q1, rfl, hA, hb⟩
    have B2 := Lib.hid (btr B1.out hb)
    have A1_2 := Lib.hid hA
    clear hA
    clear hb
    go_wp2_with fail
    (with_reducible refine (HR.out _ _ _ A1_2.out (HL.out.on B2.out).et).mono ?_); rintro e w3 ⟨a2, q2, rfl, hA, hb⟩
    have B3 := Lib.hid (btr B2.out hb)
    have A1_3 := Lib.hid (A1_2.out.on hb)
    have A2_3 := Lib.hid hA
    clear hA
    clear hb
    go_wp2_with fail
    (with_reducible refine (HFI.out _ _ _ A1_3.out).mono ?_); rintro e w4 ⟨a3, q3, rfl, hA, hb⟩
    have B4 := Lib.hid (btr B3.out hb)
    have A2_4 := Lib.hid (A2_3.out.on hb)
    have A3_4 := Lib.hid hA
    clear hA
    clear hb
    go_wp2_with fail
    (with_reducible refine (HTH.out _ _ _ A2_4.out).mono ?_); rintro e w5 ⟨a4, q4, rfl, hA, hb⟩
    have B5 := Lib.hid (btr B4.out hb)
    have A2_5 := Lib.hid (A2_4.out.on hb)
    have A3_5 := Lib.hid (A3_4.out.on hb)
    have A4_5 := Lib.hid hA
    clear hA
    clear hb
    go_wp2
    go_loop [14] (fun i => ∃ k : Nat, k ≤ Wa.length ∧ i = .int .i64 (k : Int)) (fun i => Wa.length - (intOf i).toNat)
    case atStart => exact ⟨0, Nat.zero_le _, rfl⟩
    case round =>
      obtain ⟨k, hk, rfl⟩ := hrel
      by_cases hlt : k < Wa.length
      · have hlt' : (k : Int) < (Wa.length : Int) := by omega
        have hx := List.getElem_mem hlt
        obtain ⟨b, off, rfl, hbn, c0, c1⟩ := A3_5.out k hlt
        clear c1 hbn
        by_cases he : Wa[k].i = id
        · rw [he] at c0
          clear hx he
          go_wp2
          go_round
          case rel => exact ⟨k + 1, by omega, by go_num⟩
          case measure => simp [intOf]; omega
        · have HIN := Lib.hid (fun a c W h => by have := HII.out a c (Wa[k]).i W h; rw [HKEEP.out _ hx he] at this; exact this)
          have hd : (Wa[k].i == id) = false := beq_eq_false_iff_ne.2 he
          generalize Wa[k].i = xi at *
          clear hx
          go_wp2_with fail
          (with_reducible refine (HIN.out _ _ _ A4_5.out).mono ?_); rintro e w6 ⟨rfl, rfl⟩
          go_wp2
          go_round
          case rel => exact ⟨k + 1, by omega, by go_num⟩
          case measure => simp [intOf]; omega
      · have hge : ¬ (k : Int) < (Wa.length : Int) := by omega
        clear hlt hk
        go_wp2
        go_loop [15] (fun i => ∃ k : Nat, k ≤ Is.length ∧ i = .int .i64 (k : Int)) (fun i => Is.length - (intOf i).toNat)
        case atStart => exact ⟨0, Nat.zero_le _, rfl⟩
        case round =>
          clear hge
          obtain ⟨k, hk, rfl⟩ := hrel
          by_cases hlt : k < Is.length
          · have hlt' : (k : Int) < (Is.length : Int) := by omega
            have hx := List.getElem_mem hlt
            obtain ⟨b, off, rfl, hbn, c0, c1⟩ := A4_5.out k hlt
            clear c1 hbn
            have HIN := Lib.hid (fun a c W h => by have := HIW.out a c (Is[k]).i W h; rw [HWAS.out _ hx] at this; exact this)
            generalize Is[k].i = xi at *
            clear hx
            go_wp2_with fail
            (with_reducible refine (HIN.out _ _ _ A3_5.out).mono ?_); rintro e w6 ⟨rfl, rfl⟩
            go_wp2
            go_round
            case rel => exact ⟨k + 1, by omega, by go_num⟩
            case measure => simp [intOf]; omega
          · have hge : ¬ (k : Int) < (Is.length : Int) := by omega
            clear hlt hk
            by_cases q0 : at_ < now
            · go_wp2_with fail
              (with_reducible refine (HRT.out _ _ _ A2_5.out).mono ?_); rintro e w7 ⟨rfl, hb⟩
              have B7 := Lib.hid (btr B5.out hb)
              clear hb
              go_wp2
              go_ret
              exact ⟨ret_bool (by first | rfl | (simp; done)), B7.out⟩
            · have HIN := Lib.hid (fun a c W h => by have := HII.out a c id W h; rw [HGONE.out (by omega)] at this; exact this)
              go_wp2_with fail
              (with_reducible refine (HRT.out _ _ _ A2_5.out).mono ?_); rintro e w7 ⟨rfl, hb⟩
              have B7 := Lib.hid (btr B5.out hb)
              have A4_7 := Lib.hid (A4_5.out.on hb)
              clear hb
              go_wp2_with fail
              (with_reducible refine (HIN.out _ _ _ A4_7.out).mono ?_); rintro e w8 ⟨rfl, rfl⟩
              go_wp2
              go_ret
              exact ⟨ret_bool (by first | rfl | (simp; done)), B7.out⟩
  · rw [h4, show ([] : List Crd).length = 0 from rfl] at HR
    obtain ⟨N, hN⟩ : ∃ N, endN l id now = N := ⟨_, rfl⟩
    rw [hN] at HR h1
    clear hN h4
    go_enter Tryz.func5, Tryz.ntmps5
    go_wp2_with fail
    (with_reducible refine (HS.out).mono ?_); rintro e w1 ⟨rfl, hb⟩
    have B1 := Lib.hid (btr B0.out hb)
    have A0_1 := Lib.hid (A0_0.out.on hb)
    clear hb
    go_wp2_with fail
    (with_reducible refine (HF.out _ A0_1.out).mono ?_); rintro e w2 ⟨a1, q1, rfl, hA, hb⟩
    have B2 := Lib.hid (btr B1.out hb)
    have A1_2 := Lib.hid hA
    clear hA
    clear hb
    go_wp2_with fail
    (with_reducible refine (HR.out _ _ _ A1_2.out (HL.out.on B2.out).et).mono ?_); rintro e w3 ⟨a2, q2, rfl, _, hb⟩
    have B3 := Lib.hid (btr B2.out hb)
    clear hb
    go_wp2
    go_ret
    exact ⟨ret_bool (by first | rfl | (simp; done)), B3.out⟩
end Go.Proofs.YtikpmkidfppknaaGreatDoor

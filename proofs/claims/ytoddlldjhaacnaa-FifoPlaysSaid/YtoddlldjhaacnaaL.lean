/- Push; shown. -/
import Derived.Test.YtoddlldjhaacnaaK
namespace Go.Proofs.Ytoddlldjhaacnaa
open Go.RowKit

set_option maxHeartbeats 1000000 in
theorem push_any (F K cap : Nat) (l : List UInt8) (s : ByteArray) (hs : s.size ≤ 5000) (w : World) (h : Qs w F K cap l) :
    Calls Try.prog 13 #[.pointer (some ⟨F, 0, none⟩), .string s] w fun e w' =>
      e = .returned (.int .i64 (fits cap l.length s.size : Nat)) ∧ Qs w' F K cap (l ++ s.data.toList.take (cap - l.length)) ∧ Off F K w w' := by
  have H := Lib.hid h
  have c0 : w.cell? ⟨F, 2, none⟩ = some (.int .i64 l.length) := by obtain ⟨first, cs, hq, hr⟩ := h; exact hq.c2
  clear h
  go_enter Try.func13, Try.ntmps13
  go_wp2_with (first
    | (go_at_call 20; refine (fill_any F K cap _ l s hs _ (H.out.alloc _) (alloc_cell w _ _)).mono ?_; rintro e w1 ⟨rfl, hq, ho⟩))
  go_ret
  exact ⟨rfl, hq, ((Off.refl _ _ _).alloc _).trans ho⟩
set_option maxHeartbeats 400000 in
theorem push_nil (s : ByteArray) (w : World) :
    Calls Try.prog 13 #[.pointer none, .string s] w fun e w' => e = .returned (.int .i64 0) ∧ w = w' := by
  go_enter Try.func13, Try.ntmps13
  go_wp2
  go_ret
  exact ⟨rfl, rfl⟩

theorem push_abc (F K : Nat) (w : World) (h : Qs w F K 4 []) :
    Calls Try.prog 13 #[.pointer (some ⟨F, 0, none⟩), .string ⟨#[97, 98, 99]⟩] w fun e w' => e = .returned (.int .i64 3) ∧ Hid (Qs w' F K 4 [97, 98, 99]) ∧ Off F K w w' :=
  push_any F K 4 [] ⟨#[97, 98, 99]⟩ (by decide) w h
theorem push_de (F K : Nat) (w : World) (h : Qs w F K 4 [97, 98, 99]) :
    Calls Try.prog 13 #[.pointer (some ⟨F, 0, none⟩), .string ⟨#[100, 101]⟩] w fun e w' => e = .returned (.int .i64 1) ∧ Hid (Qs w' F K 4 [97, 98, 99, 100]) ∧ Off F K w w' :=
  push_any F K 4 [97, 98, 99] ⟨#[100, 101]⟩ (by decide) w h
theorem pop_ab (F K : Nat) (w : World) (h : Qs w F K 4 [97, 98, 99, 100]) :
    Calls Try.prog 14 #[.pointer (some ⟨F, 0, none⟩), .int .i64 2] w fun e w' => e = .returned (.string ⟨#[97, 98]⟩) ∧ Hid (Qs w' F K 4 [99, 100]) ∧ Off F K w w' :=
  pop_any F K 4 [97, 98, 99, 100] 2 w h
theorem peek_cd (F K : Nat) (w : World) (h : Qs w F K 4 [99, 100]) :
    Calls Try.prog 18 #[.pointer (some ⟨F, 0, none⟩), .int .i64 9] w fun e w' => e = .returned (.string ⟨#[99, 100]⟩) ∧ Below w.heap.size w w' :=
  peek_any F K 4 [99, 100] 9 w h
theorem len_2 (F K : Nat) (w : World) (h : Qs w F K 4 [99, 100]) :
    Calls Try.prog 12 #[.pointer (some ⟨F, 0, none⟩)] w fun e w' => e = .returned (.int .i64 2) ∧ w = w' :=
  len_any F K 4 [99, 100] w h
theorem room_2 (F K : Nat) (w : World) (h : Qs w F K 4 [99, 100]) :
    Calls Try.prog 17 #[.pointer (some ⟨F, 0, none⟩)] w fun e w' => e = .returned (.int .i64 2) ∧ ∃ n, w' = w.drewN n :=
  room_any F K 4 [99, 100] w h
theorem new_4 (w : World) : Calls Try.prog 10 #[.int .i64 4] w (Fresh w 4) := new_ok 4 (by decide) (by decide) w

set_option maxRecDepth 100000 in
set_option maxHeartbeats 1000000 in
theorem shown_any (w : World) : Calls Try.prog 8 #[] w fun e w' => e = .returned (.bool true) ∧ Below w.heap.size w w' := by
  go_enter Try.func8, Try.ntmps8
  go_wp2_with (first
    | (go_at_call 10; refine (new_4 _).mono ?_; rintro e w1 ⟨F, K, rfl, hq, hb, hF, hK⟩; have HQ1 := Lib.hid hq; clear hq)
    | (go_at_call 13; refine (push_abc F K _ HQ1.out).mono ?_; rintro e w2 ⟨rfl, HQ2, ho2⟩; have hb2 := hb.trans (ho2.below (hb.size) hF hK); clear ho2 HQ1 hb)
    | (go_at_call 13; refine (push_de F K _ HQ2.out).mono ?_; rintro e w3 ⟨rfl, HQ3, ho3⟩; have hb3 := hb2.trans (ho3.below (hb2.size) hF hK); clear ho3 HQ2 hb2)
    | (go_at_call 14; refine (pop_ab F K _ HQ3.out).mono ?_; rintro e w4 ⟨rfl, HQ4, ho4⟩; have hb4 := hb3.trans (ho4.below (hb3.size) hF hK); clear ho4 HQ3 hb3)
    | (go_at_call 18; refine (peek_cd F K _ HQ4.out).mono ?_; rintro e w5 ⟨rfl, hb5'⟩; have HQ5 := Lib.hid (HQ4.out.below hb5' HQ4.out.lt.1 HQ4.out.lt.2); have hb5 := hb4.trans (hb5'.mono hb4.size); clear HQ4 hb4 hb5')
    | (go_at_call 12; refine (len_2 F K _ HQ5.out).mono ?_; rintro e w6 ⟨rfl, rfl⟩)
    | (go_at_call 17; refine (room_2 F K _ HQ5.out).mono ?_; rintro e w6 ⟨rfl, n, rfl⟩))

  go_ret
  exact ⟨rfl, hb5.os, hb5.tape, hb5.output, hb5.size, hb5.block⟩
end Go.Proofs.Ytoddlldjhaacnaa

/- FifoPlays' walk. -/
import Derived.Test.YtoddlldjhaacnaaW
namespace Go.Proofs.Ytoddlldjhaacnaa
open Go.RowKit

set_option maxHeartbeats 1000000 in
theorem pop_nil (n : Int) (w : World) :
    Calls Try.prog 14 #[.pointer none, .int .i64 n] w fun e w' => e = .returned (.string ⟨#[]⟩) ∧ w = w' := by
  have hp : ∀ W, Calls Try.prog 18 #[.pointer none, .int .i64 n] W fun e w' => e = .returned (.string ⟨#[]⟩) ∧ W = w' := fun W => peek_nil n W
  have HP := Lib.hid hp
  clear hp
  go_enter Try.func14, Try.ntmps14
  go_wp2_with (first | (go_at_call 18; refine (HP.out _).mono ?_; rintro e w1 ⟨rfl, rfl⟩))
  go_ret
  exact ⟨rfl, rfl⟩
theorem rnew_some (n : Nat) (h : 1 ≤ n) (h2 : n ≤ 4096) (w : World) :
    Calls Try.prog 11 #[.int .i64 n] w fun e w' => ∃ G, e = .returned (.tuple #[.pointer (some ⟨G, 0, none⟩), .int .i64 0]) ∧ Hid (IsR w' G n []) ∧ Below w.heap.size w w' ∧ w.heap.size ≤ G :=
  (rnew_ok n h h2 w).mono fun _ _ ⟨h1, h2, h3⟩ => ⟨_, h1, Lib.hid h2, h3, Nat.le_refl _⟩
theorem len_quiet (F K cap : Nat) (l : List UInt8) (w : World) (n : Nat) (h : Qs w F K cap l) :
    Calls Try.prog 12 #[.pointer (some ⟨F, 0, none⟩)] (w.drewN n) fun e w' => e = .returned (.int .i64 l.length) ∧ ∃ m, w' = w.drewN m :=
  (len_any F K cap l _ (h.drewN n)).mono fun _ _ ⟨h1, h2⟩ => ⟨h1, n, h2.symm⟩
theorem room_quiet (F K cap : Nat) (l : List UInt8) (r : Nat) (hr : cap - l.length = r) (w : World) (n : Nat) (h : Qs w F K cap l) :
    Calls Try.prog 17 #[.pointer (some ⟨F, 0, none⟩)] (w.drewN n) fun e w' => e = .returned (.int .i64 (r : Nat)) ∧ ∃ m, w' = w.drewN m :=
  (room_q F K cap l r hr _ (h.drewN n)).mono fun _ _ ⟨h1, m, h2⟩ => ⟨h1, n + m, by rw [h2, World.drewN_drewN]⟩

set_option maxRecDepth 100000 in
set_option maxHeartbeats 4000000 in
theorem plays_any (n : Int) (a : Option Addr) (c : Nat) (xs : List OpV) (w : World) (h : OpsIn w.heap.size w a xs) :
    Calls Try.prog 3 #[.int .i64 n, .slice a xs.length c] w fun e w' => e = .returned (.bool true) ∧ Below w.heap.size w w' := by
  have HO := Lib.hid h
  clear h
  by_cases hn : 1 ≤ n ∧ n ≤ 4096
  · obtain ⟨n1, n2⟩ := hn
    obtain ⟨cap, rfl⟩ : ∃ cap : Nat, n = cap := ⟨n.toNat, by omega⟩
    have HN1 := Lib.hid n1
    have HN2 := Lib.hid n2
    clear n1 n2
    go_enter Try.func3, Try.ntmps3
    go_wp2_with (first
      | (go_at_call 8; refine (shown_any _).mono ?_; rintro e w1 ⟨rfl, hb1⟩)
      | (go_at_call 9; refine (cut_post a c xs _ ((HO.out.below hb1).mono hb1.size)).mono ?_; rintro e w2 ⟨a2, c2, rfl, ho2, hb2'⟩; have hb2 := hb1.trans (hb2'.mono hb1.size); have hys := cutAll_size xs; (have hyl : (cutAll xs).length ≤ 40 := by rw [cutAll_length]; omega); have HO2 := Lib.hid ho2; have HYS := Lib.hid hys; clear ho2 hb2' hys hb1; generalize cutAll xs = ys at *)
      | (go_at_call 10; refine (new_ok cap (by have := HN1.out; omega) (by have := HN2.out; omega) _).mono ?_; rintro e w3 ⟨F, K, rfl, hq, hb3', hF, hK⟩; have HQ3 := Lib.hid hq; have hb3 := hb2.trans (hb3'.mono hb2.size); (have h23 := hb2.size); have hb23 := hb3'; clear hq hb3' hb2)
      | (go_at_call 11; refine (rnew_some cap (by have := HN1.out; omega) (by have := HN2.out; omega) _).mono ?_; rintro e w4 ⟨G, rfl, HR4, hb4', hG⟩; have HQ4 := Lib.hid (HQ3.out.below hb4' HQ3.out.lt.1 HQ3.out.lt.2); have hlt3 := HQ3.out.lt; (have h34 := hb23.size); have hb4 := hb3.trans (hb4'.mono hb3.size); have hb24 := hb23.trans (hb4'.mono h34); clear hb4' hb3 hb23))
    go_loopw [10] (fun i wr => ∃ (k : Nat) (l : List UInt8), k ≤ ys.length ∧ i = .int .i64 k ∧ Qs wr F K cap l ∧ IsR wr G cap l ∧ Below w2.heap.size w2 wr ∧ Below w.heap.size w wr)
      (fun i _ => ys.length - (intOf i).toNat)
    case atStart => exact ⟨0, [], Nat.zero_le _, rfl, HQ4.out, HR4.out, hb24, hb4⟩
    case round =>
      obtain ⟨k, l, hk, rfl, hq, hr, hb4, hb5⟩ := hrel
      have HQ := Lib.hid hq
      have HR := Lib.hid hr
      have HB4 := Lib.hid hb4
      have HB5 := Lib.hid hb5
      have hcap := hq.cap_le
      have hll := hq.le
      clear hq hr hb4 hb5
      by_cases hlt : k < ys.length
      · obtain ⟨b, off, rfl, hbl, c0, c1, c2'⟩ := (HO2.out.below HB4.out) k hlt
        rw [Nat.mul_comm 3 k] at c0 c1 c2'
        have hsz := HYS.out ys[k] (List.getElem_mem hlt)
        have hi1 : (k : Int) < (ys.length : Int) := by omega
        have f1 : b ≠ F := by omega
        have f2 : b ≠ K := by omega
        have f3 : b ≠ G := by omega
        have g1 : G ≠ F := by omega
        have g2 : G ≠ K := by omega
        generalize ys[k] = x at *
        have hl2 := stepL_le (cap := cap) x hll
        have hd := fun W hq => do_any F K cap l x (by omega) W hq
        have hw := fun W hq => want_any G cap l x W hq
        obtain ⟨p, t, hT⟩ : ∃ (p : Nat) (t : ByteArray), Told cap l x = .tuple #[.int .i64 p, .string t] := ⟨_, _, rfl⟩
        rw [hT] at hd hw
        generalize stepL cap l x = l2 at *
        obtain ⟨r, hr⟩ : ∃ r, cap - l2.length = r := ⟨_, rfl⟩
        have hri : (r : Int) = (cap : Int) - (l2.length : Int) := by omega
        have hz := str_size l2
        have hsub : IntKind.i64.wrap ((cap : Int) - (l2.length : Int)) = (cap : Int) - (l2.length : Int) := IntWalk.i64_in _ (by omega)
        have HD := Lib.hid hd
        have HW := Lib.hid hw
        have HRM := Lib.hid hr
        clear hd hw hT hr
        go_wp2_with (first
          | (go_at_call 15; refine (HD.out _ HQ.out).mono ?_; rintro e w6 ⟨rfl, hq6, ho6⟩; have HQ6 := Lib.hid hq6; have HO6 := Lib.hid ho6; (have d0 := (ho6.cell (blt c0) f1 f2).trans c0); (have d1 := (ho6.cell (blt c1) f1 f2).trans c1); (have d2 := (ho6.cell (blt c2') f1 f2).trans c2'); have HR6 := Lib.hid (HR.out.off ho6 g1 g2); clear hq6 ho6 c0 c1 c2' HQ HR)
          | (go_at_call 16; refine (HW.out _ HR6.out).mono ?_; rintro e w7 ⟨rfl, hr7, ho7⟩; have HR7 := Lib.hid hr7; have HO7 := Lib.hid ho7; have HQ7 := Lib.hid (HQ6.out.off ho7 g1.symm g1.symm g2.symm g2.symm); clear hr7 ho7 HQ6 HR6))
        have r0 := HR7.out.c0
        have r1 := HR7.out.c1
        go_quiet ((first
          | (go_at_call 12; exact len_quiet F K cap l2 _ _ HQ7.out)
          | (go_at_call 17; exact room_quiet F K cap l2 r HRM.out _ _ HQ7.out)))
        go_wp2
        go_roundw
        case rel => exact ⟨k + 1, l2, by omega, by go_num, HQ7.out.drewN nq, HR7.out.drewN nq,
          below_drewN ((HB4.out.trans (HO6.out.below HB4.out.size hF hK)).trans (HO7.out.below (Nat.le_trans HB4.out.size HO6.out.size) (by omega) (by omega))) nq,
          below_drewN ((HB5.out.trans (HO6.out.below HB5.out.size (by omega) (by omega))).trans (HO7.out.below (Nat.le_trans HB5.out.size HO6.out.size) (by omega) (by omega))) nq⟩
        case measure => simp [intOf]; omega
      · obtain rfl : k = ys.length := by omega
        go_wp2
        go_ret
        exact ⟨rfl, HB5.out⟩
  · have HN := Lib.hid (show n < 1 ∨ 4096 < n by omega)
    clear hn
    go_enter Try.func3, Try.ntmps3
    go_wp2_with (first
      | (go_at_call 8; refine (shown_any _).mono ?_; rintro e w1 ⟨rfl, hb1⟩)
      | (go_at_call 9; refine (cut_post a c xs _ ((HO.out.below hb1).mono hb1.size)).mono ?_; rintro e w2 ⟨a2, c2, rfl, ho2, hb2'⟩; have hb2 := hb1.trans (hb2'.mono hb1.size); clear ho2 hb2' hb1)
      | (go_at_call 10; refine (new_err n HN.out _).mono ?_; rintro e w1 ⟨rfl, rfl⟩)
      | (go_at_call 11; refine (rnew_err n HN.out _).mono ?_; rintro e w1 ⟨rfl, rfl⟩)
      | (go_at_call 12; refine (len_nil _).mono ?_; rintro e w1 ⟨rfl, rfl⟩)
      | (go_at_call 13; refine (push_nil _ _).mono ?_; rintro e w1 ⟨rfl, rfl⟩)
      | (go_at_call 14; refine (pop_nil _ _).mono ?_; rintro e w1 ⟨rfl, rfl⟩))
    go_ret
    exact ⟨rfl, hb2⟩
end Go.Proofs.Ytoddlldjhaacnaa

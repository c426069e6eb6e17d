/- FifoFull's walk. -/
import Derived.Test.YtoddlldjhaacnaaL
namespace Go.Proofs.Ytoddlldjhaacnaa
open Go.RowKit

theorem made_eq2 (n : Nat) : madeCells #[.int .u8 0] n = ((List.replicate n (0 : UInt8)).map fun b => Value.int .u8 (b.toNat : Int)).toArray := by
  rw [made_eq, List.map_replicate]
  rfl
theorem many_size : (str (List.replicate 5000 0)).size ≤ 5000 := by rw [str_size, List.length_replicate]; exact Nat.le_refl _
theorem many_eq (cap : Nat) (h : cap ≤ 4096) : (str (List.replicate 5000 0)).data.toList.take cap = List.replicate cap 0 := by
  show (List.replicate 5000 (0 : UInt8)).take cap = _
  rw [List.take_replicate, Nat.min_eq_left (by omega)]
theorem pop_none (F K cap : Nat) (n : Int) (w : World) (h : Qs w F K cap []) :
    Calls Try.prog 14 #[.pointer (some ⟨F, 0, none⟩), .int .i64 n] w fun e w' => e = .returned (.string ⟨#[]⟩) ∧ Hid (Qs w' F K cap []) ∧ Off F K w w' :=
  (pop_any F K cap [] n w h).mono fun e w' ⟨h1, h2, h3⟩ => ⟨by rw [h1, List.take_nil]; rfl, Lib.hid (by rw [List.drop_nil] at h2; exact h2), h3⟩
theorem peek_none (F K cap : Nat) (n : Int) (w : World) (h : Qs w F K cap []) :
    Calls Try.prog 18 #[.pointer (some ⟨F, 0, none⟩), .int .i64 n] w fun e w' => e = .returned (.string ⟨#[]⟩) ∧ Below w.heap.size w w' :=
  (peek_any F K cap [] n w h).mono fun e w' ⟨h1, h2⟩ => ⟨by rw [h1, List.take_nil]; rfl, h2⟩
theorem push_many (F K cap : Nat) (w : World) (h : Qs w F K cap []) :
    Calls Try.prog 13 #[.pointer (some ⟨F, 0, none⟩), .string (str (List.replicate 5000 0))] w fun e w' => e = .returned (.int .i64 cap) ∧ Hid (Qs w' F K cap (List.replicate cap 0)) ∧ Off F K w w' := by
  have hc := h.cap_le
  refine (push_any F K cap [] _ many_size w h).mono fun e w' ⟨h1, h2, h3⟩ => ⟨by rw [h1]; exact ret_int (by rw [str_size, List.length_replicate]; simp only [fits, List.length_nil]; omega), Lib.hid ?_, h3⟩
  · rw [List.length_nil, Nat.sub_zero, many_eq cap hc] at h2; exact h2
theorem push_over (F K cap : Nat) (s : ByteArray) (hs : s.size ≤ 5000) (w : World) (h : Qs w F K cap (List.replicate cap 0)) :
    Calls Try.prog 13 #[.pointer (some ⟨F, 0, none⟩), .string s] w fun e w' => e = .returned (.int .i64 0) ∧ Hid (Qs w' F K cap (List.replicate cap 0)) ∧ Off F K w w' := by
  refine (push_any F K cap _ s hs w h).mono fun e w' ⟨h1, h2, h3⟩ => ⟨by rw [h1]; exact ret_int (by rw [List.length_replicate]; simp [fits]), Lib.hid ?_, h3⟩
  · rw [List.length_replicate, Nat.sub_self, List.take_zero, List.append_nil] at h2; exact h2
theorem len_full (F K cap : Nat) (w : World) (h : Qs w F K cap (List.replicate cap 0)) :
    Calls Try.prog 12 #[.pointer (some ⟨F, 0, none⟩)] w fun e w' => e = .returned (.int .i64 cap) ∧ w = w' :=
  (len_any F K cap _ w h).mono fun e w' ⟨h1, h2⟩ => ⟨by rw [h1, List.length_replicate], h2⟩
theorem clear_full (F K cap : Nat) (w : World) (h : Qs w F K cap (List.replicate cap 0)) :
    Calls Try.prog 19 #[.pointer (some ⟨F, 0, none⟩)] w fun e w' => e = .returned (.int .i64 cap) ∧ Hid (Qs w' F K cap []) ∧ Off F K w w' :=
  (clear_any F K cap _ w h).mono fun e w' ⟨h1, h2, h3⟩ => ⟨by rw [h1, List.length_replicate], Lib.hid h2, h3⟩
theorem room_none (F K cap : Nat) (w : World) (h : Qs w F K cap []) :
    Calls Try.prog 17 #[.pointer (some ⟨F, 0, none⟩)] w fun e w' => e = .returned (.int .i64 cap) ∧ ∃ n, w' = w.drewN n :=
  room_any F K cap [] w h
theorem below_drewN {n : Nat} {a w : World} (h : Below n a w) (k : Nat) : Below n a (w.drewN k) := ⟨h.os, h.tape, h.output, h.size, h.block⟩
theorem make_5000 (W : World) : (Instr.makeSlice 45 (.int .i64 5000) (.int .i64 5000)).run Try.prog W = .ok (.slice (some ⟨W.heap.size, 0, none⟩) 5000 5000) (W.alloc (.cells (((List.replicate 5000 (0 : UInt8)).map fun b => Value.int .u8 (b.toNat : Int)).toArray) 5)) := by
  rw [← made_eq2]; exact make_bytes 5000 (by decide) W

set_option maxRecDepth 100000 in
set_option maxHeartbeats 1000000 in
theorem full_any (n : Int) (s : ByteArray) (hs : s.size ≤ maxLen) (w : World) :
    Calls Try.prog 7 #[.int .i64 n, .string s] w fun e w' => e = .returned (.bool true) ∧ Below w.heap.size w w' := by
  unfold maxLen at hs
  go_enter Try.func7, Try.ntmps7
  go_upto_region 2 with (first | (go_at_call 8; refine (shown_any _).mono ?_; rintro e w1 ⟨rfl, hb⟩))
  go_cut [1, 5] (fun v h wx => (∃ t : ByteArray, t.size ≤ 5000 ∧ v = .string t) ∧ h = .bool true ∧ Below w.heap.size w wx)
  case first =>
    by_cases h100 : s.size ≤ 100
    · go_wp2_with fail
      go_meet
      exact ⟨⟨_, by omega, rfl⟩, rfl, hb⟩
    · go_wp2_with fail
      all_goals
        go_meet
        refine ⟨⟨_, ?_, rfl⟩, rfl, hb⟩
        simp
        try omega
  case rest =>
    obtain ⟨⟨t, ht, rfl⟩, rfl, hb⟩ := hcut
    clear hs s
    by_cases hn : 1 ≤ n ∧ n ≤ 4096
    · obtain ⟨n1, n2⟩ := hn
      obtain ⟨cap, rfl⟩ : ∃ cap : Nat, n = cap := ⟨n.toNat, by omega⟩
      have HN1 := Lib.hid n1
      have HN2 := Lib.hid n2
      clear n1 n2
      go_wp2_with (first
        | (go_at_call 10; refine (new_ok cap (by have := HN1.out; omega) (by have := HN2.out; omega) _).mono ?_; rintro e w1 ⟨F, K, rfl, hq, hb1, hF, hK⟩; have HQ1 := Lib.hid hq; have hb2 := hb.trans (hb1.mono hb.size); have hF' := Nat.le_trans hb.size hF; have hK' := Nat.le_trans hb.size hK; clear hq hb1 hF hK)
        | (go_at_call 14; refine (pop_none F K cap _ _ HQ1.out).mono ?_; rintro e w2 ⟨rfl, HQ2, ho2⟩; have hb3 := hb2.trans (ho2.below (hb2.size) hF' hK'); clear ho2 HQ1 hb2; (have hmk := make_5000 w2); (have hcv := conv_row (w2.alloc (.cells (((List.replicate 5000 (0 : UInt8)).map fun b => Value.int .u8 (b.toNat : Int)).toArray) 5)) w2.heap.size (List.replicate 5000 0) (World.alloc_heap_new _ _)); rw [List.length_replicate] at hcv; generalize (Obj.cells (((List.replicate 5000 (0 : UInt8)).map fun b => Value.int .u8 (b.toNat : Int)).toArray) 5) = X at hmk hcv; have hb4 := hb3.alloc hb3.size X; (have HQ3 := Lib.hid (HQ2.out.alloc X)); clear HQ2 hb3)
        | (go_at_call 13; refine (push_many F K cap _ HQ3.out).mono ?_; rintro e w4 ⟨rfl, HQ4, ho4⟩; have hb5 := hb4.trans (ho4.below (hb4.size) hF' hK'); clear ho4 HQ3 hb4 hmk hcv)
        | (go_at_call 13; refine (push_over F K cap t ht _ HQ4.out).mono ?_; rintro e w5 ⟨rfl, HQ5, ho5⟩; have hb6 := hb5.trans (ho5.below (hb5.size) hF' hK'); clear ho5 HQ4 hb5)
        | (go_at_call 12; refine (len_full F K cap _ HQ5.out).mono ?_; rintro e w6 ⟨rfl, rfl⟩)
        | (go_at_call 19; refine (clear_full F K cap _ HQ5.out).mono ?_; rintro e w7 ⟨rfl, HQ7, ho7⟩; have hb8 := hb6.trans (ho7.below (hb6.size) hF' hK'); clear ho7 HQ5 hb6)
        | (go_at_call 18; refine (peek_none F K cap _ _ HQ7.out).mono ?_; rintro e w8 ⟨rfl, hb9⟩; have HQ8 := Lib.hid (HQ7.out.below hb9 HQ7.out.lt.1 HQ7.out.lt.2); have hb10 := hb8.trans (hb9.mono hb8.size); clear HQ7 hb8 hb9)
        | (go_at_call 17; refine (room_none F K cap _ HQ8.out).mono ?_; rintro e w9 ⟨rfl, q, rfl⟩))

      go_ret
      exact ⟨rfl, below_drewN hb10 q⟩
    · have HN := Lib.hid (show n < 1 ∨ 4096 < n by omega)
      clear hn
      go_wp2_with (first
        | (go_at_call 10; refine (new_err n HN.out _).mono ?_; rintro e w1 ⟨rfl, rfl⟩)
        | (go_at_call 13; refine (push_nil _ _).mono ?_; rintro e w1 ⟨rfl, rfl⟩))
      go_ret
      exact ⟨rfl, hb⟩
end Go.Proofs.Ytoddlldjhaacnaa

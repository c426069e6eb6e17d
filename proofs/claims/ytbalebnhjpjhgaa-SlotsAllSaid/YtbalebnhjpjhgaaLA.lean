/- wicketgatelaw09.SlotsNew: the walk. -/
import Derived.Test.YtbalebnhjpjhgaaZ
namespace Go.Proofs.Ytbalebnhjpjhgaa
open Go.RowKit

set_option maxRecDepth 100000 in
set_option maxHeartbeats 4000000 in
theorem new_law_no (n : Int) (h : ¬ (1 ≤ n ∧ n ≤ 64)) (w : World) :
    Calls Try.prog 8 #[.int .i64 n] w fun e w' => e = .returned (.bool true) ∧ Below w.heap.size w w' := by
  have n1 : newE n = (nilS, 2) := by unfold newE; rw [if_neg h]
  clear h
  go_enter Try.func8, Try.ntmps8
  go_wp2_with fail
  refine (shown_any _).mono ?_; rintro e w1 ⟨rfl, hb1⟩
  go_wp2_with fail
  refine (new_to n nilS 2 n1 0 0 0 rfl rfl rfl _).mono ?_; rintro e w2 ⟨b1, b2, b3, d1, d2, d3, rfl, hS, hb2⟩
  have HB := Lib.hid (btr hb1 hb2)
  have HS := Lib.hid hS
  clear hb1 hb2 hS
  go_wp2_with fail
  refine (right2_any _ _ _ _ _ _ 0 0 0 nilS rfl rfl rfl _ (HS.out.on (bal (Below.refl w2.heap.size w2) _))).mono ?_; rintro e w3 ⟨rfl, hb3⟩
  rw [nil_right]
  go_wp2
  go_ret
  exact ⟨rfl, btr (bal HB.out _) hb3⟩

set_option maxRecDepth 100000 in
set_option maxHeartbeats 1000000 in
theorem new_law_yes (n : Nat) (h1 : 1 ≤ n) (h2 : n ≤ 64) (w : World) :
    Calls Try.prog 8 #[.int .i64 n] w fun e w' => e = .returned (.bool true) ∧ Below w.heap.size w w' := by
  have n1 : newE n = (newT n 0, 0) := by unfold newE; rw [if_pos (by omega), newT_zero]; rfl
  obtain ⟨m1, m2, m3⟩ := newT_len (n := n) (k := 0) (by omega)
  rw [Nat.sub_zero] at m3
  have HT := Lib.hid (fun k hk => newT_take (n := n) (k := k) h1 h2 hk)
  have HF := Lib.hid (newT_full h1 h2)
  have HA := Lib.hid (fun k hk => newT_all (n := n) (k := k) h1 h2 hk)
  have HL := Lib.hid (fun k hk => newT_len (n := n) (k := k) hk)
  have i2 : (n : Int) ≤ 64 := by omega
  go_enter Try.func8, Try.ntmps8
  go_wp2_with fail
  refine (shown_any _).mono ?_; rintro e w1 ⟨rfl, hb1⟩
  go_wp2_with fail
  refine (new_to n (newT n 0) 0 n1 n n n m1 m2 m3 _).mono ?_; rintro e w2 ⟨b1, b2, b3, d1, d2, d3, rfl, hS, hb2⟩
  have hB := btr hb1 hb2
  have HV := Lib.hid (VarS.new w2 25 b1 b2 b3 n n n d1 d2 d3)
  have HS := Lib.hid (hS.on (bal (Below.refl w2.heap.size w2) (.cells #[.slice b1 n d1, .slice b2 n d2, .slice b3 n d3] 25)))
  have HB := Lib.hid (bal hB (.cells #[.slice b1 n d1, .slice b2 n d2, .slice b3 n d3] 25))
  have hX : w.heap.size ≤ w2.heap.size := hB.size
  clear hb1 hb2 hS hB m1 m2 m3 n1
  go_wp2_with fail
  generalize w2.heap.size = X at *
  go_loopw [6] (fun i wr => ∃ (k : Nat) (a b c : Option Addr) (d f g M : Nat), k ≤ n ∧ i = .int .i64 k ∧ M = n - k ∧ VarS X a b c n n M d f g wr ∧ SlotsAt wr.heap.size wr a b c (newT n k).g (newT n k).u (newT n k).f ∧ Below w.heap.size w wr) (fun i _ => n - (intOf i).toNat)
  case atStart => exact ⟨0, b1, b2, b3, d1, d2, d3, n, by omega, rfl, by omega, HV.out, HS.out, HB.out⟩
  case round =>
    clear HV HS HB
    obtain ⟨k, a, b, c, d, f, g, M, hk, rfl, hM, hV, hS, hB⟩ := hrel
    have HM := Lib.hid hM
    clear hM
    obtain ⟨e0, e1, e2, f0, f1, f2⟩ := id hV
    have hXr := hV.lt
    have VV := Lib.hid hV
    have SS := Lib.hid hS
    have BB := Lib.hid hB
    clear hV hS hB
    by_cases hlt : k < n
    · have hlt' : (k : Int) < (n : Int) := by omega
      have hk64 : (k : Int) < 64 := by omega
      obtain ⟨M', hM'⟩ : ∃ M', M' = n - (k + 1) := ⟨_, rfl⟩
      have HM' := Lib.hid hM'
      clear hM'
      have C := Lib.hid (fun W hW => take_to a b c d f g n n M (newT n k) (HL.out k hk).1 (HL.out k hk).2.1 (by rw [HM.out]; exact (HL.out k hk).2.2) (newT n (k + 1)) k 1 0 (HT.out k hlt) n n M' (HL.out (k + 1) hlt).1 (HL.out (k + 1) hlt).2.1 (by rw [HM'.out]; exact (HL.out (k + 1) hlt).2.2) W hW)
      have D := Lib.hid (fun x1 x2 x3 y1 y2 y3 W hW => all_any x1 x2 x3 y1 y2 y3 n n M' (newT n (k + 1)) (HL.out (k + 1) hlt).1 (HL.out (k + 1) hlt).2.1 (by rw [HM'.out]; exact (HL.out (k + 1) hlt).2.2) W hW)
      go_wp2_with fail
      refine (C.out _ SS.out).mono ?_; rintro e w3 ⟨x1, x2, x3, y1, y2, y3, rfl, hS3, _, hb3⟩
      obtain ⟨hc3, hf3⟩ := bcell hb3
      have B3 := Lib.hid (btr BB.out hb3)
      have V3 := Lib.hid (VV.out.on hb3 hXr)
      have S3 := Lib.hid hS3
      have hX3 : X < w3.heap.size := Nat.lt_of_lt_of_le hXr hb3.size
      clear hb3 hS3
      go_wp2_with fail
      refine (D.out _ _ _ _ _ _ _ (S3.out.on (bal (bal (Below.refl w3.heap.size w3) _) _))).mono ?_; rintro e w4 ⟨v, rfl, ho, hb4⟩
      obtain ⟨cap, av, rfl⟩ := ho.slice
      rw [HA.out (k + 1) (by omega)]
      obtain ⟨hc4, hf4⟩ := bcell hb4
      have hz4 := hb4.size
      simp only [World.size_alloc] at hz4
      have V4 := Lib.hid (((V3.out.on (bal (Below.refl w3.heap.size w3) (.cells #[.slice x1 n y1, .slice x2 n y2, .slice x3 M' y3] 25)) hX3).on (bal (Below.refl _ _) (.cells #[.int .i64 k, .int .i64 1] 27)) (by simp; omega)).on hb4 (by simp; omega))
      obtain ⟨e0, e1, e2, f0, f1, f2⟩ := id V4.out
      have S4 := Lib.hid (S3.out.on (btr (bal (bal (Below.refl w3.heap.size w3) _) _) hb4))
      have B4 := Lib.hid (btr (bal (bal B3.out _) _) hb4)
      have hz43 : w3.heap.size < w4.heap.size := by omega
      have hself : w3.heap.size < w3.heap.size + 1 + 1 := by omega
      clear hb4 ho
      have R1 := Lib.hid (V4.out.put x1 x2 x3 n n M' y1 y2 y3)
      have R2 := Lib.hid ((S4.out.put V4.out x1 x2 x3 n n M' y1 y2 y3).mono (Nat.le_of_eq (put3_size w4 X (.slice x1 n y1) (.slice x2 n y2) (.slice x3 M' y3)).symm))
      have R3 := Lib.hid (put3_below B4.out hX (.slice x1 n y1) (.slice x2 n y2) (.slice x3 M' y3))
      go_wp2
      exact ⟨⟨k + 1, x1, x2, x3, y1, y2, y3, M', hlt, by go_num, HM'.out, R1.out, R2.out, R3.out⟩, by simp [intOf]; omega⟩
    · obtain rfl : k = n := by omega
      have hnn : ¬ (k : Int) < (k : Int) := by omega
      have C := Lib.hid (fun W hW => take_to a b c d f g k k M (newT k k) (HL.out k hk).1 (HL.out k hk).2.1 (by rw [HM.out]; exact (HL.out k hk).2.2) nilS 0 0 92 HF.out 0 0 0 rfl rfl rfl W hW)
      go_wp2_with fail
      refine (C.out _ SS.out).mono ?_; rintro e w3 ⟨x1, x2, x3, y1, y2, y3, rfl, hS3, _, hb3⟩
      have B3 := Lib.hid (bal (bal (btr BB.out hb3) (.cells #[.slice x1 0 y1, .slice x2 0 y2, .slice x3 0 y3] 25)) (.cells #[.int .i64 0, .int .i64 0] 27))
      clear hb3 hS3
      go_wp2
      go_ret
      exact ⟨rfl, B3.out⟩

theorem new_law (n : Int) (w : World) :
    Calls Try.prog 8 #[.int .i64 n] w fun e w' => e = .returned (.bool true) ∧ Below w.heap.size w w' := by
  by_cases h : 1 ≤ n ∧ n ≤ 64
  · obtain ⟨k, rfl⟩ : ∃ k : Nat, n = k := ⟨n.toNat, by omega⟩
    exact new_law_yes k (by omega) (by omega) w
  · exact new_law_no n h w
end Go.Proofs.Ytbalebnhjpjhgaa

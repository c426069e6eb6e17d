/- MacAnswers. -/
import Derived.Test.YtjlpkndbnaknaaaDoorVa
namespace Go.Proofs.YtjlpkndbnaknaaaDoor
open Go.RowKit Go.Shelf
attribute [local go_sem] Oper.semAt_some

theorem ch_two (a b : Int) : chV a b = .tuple #[.string ⟨#[]⟩, .int .i64 2] ∨ ∃ C : ByteArray, C.size = 32 ∧ chV a b = .tuple #[.string C, .int .i64 0] := by
  unfold chV
  cases isAskB a
  · exact .inl rfl
  · cases isAskB b
    · exact .inl rfl
    · exact .inr ⟨_, by rw [ofL_size, sumL_length], rfl⟩
theorem mac_both (key s : ByteArray) : (isKeyB key = false ∧ macV key s = .tuple #[.string ⟨#[]⟩, .int .i64 50]) ∨ (isKeyB key = true ∧ ∃ A, macV key s = .tuple #[.string A, .int .i64 0]) := by
  unfold macV
  cases isKeyB key
  · exact .inl ⟨rfl, rfl⟩
  · exact .inr ⟨rfl, _, rfl⟩
theorem ans_mac (key ch name : ByteArray) (h : ch.size = 32) : ansV key ch name = macV key (ch ++ name) := by
  unfold ansV macV
  rw [show isChB ch = true from decide_eq_true h]
  rfl
theorem ans_empty (key name : ByteArray) : ∃ f : Int, f ≠ 0 ∧ ansV key ⟨#[]⟩ name = .tuple #[.string ⟨#[]⟩, .int .i64 f] := by
  unfold ansV
  rw [show isChB ⟨#[]⟩ = false from rfl]
  cases isKeyB key
  · exact ⟨50, by decide, rfl⟩
  · exact ⟨2, by decide, rfl⟩
set_option maxRecDepth 100000 in
set_option maxHeartbeats 4000000 in
theorem answers_law (k0 : ByteArray) (a b : Int) (n0 : ByteArray) (w : World) (hL : Lay w) : Calls Tryd.prog 4 #[.string k0, .int .i64 a, .int .i64 b, .string n0] w fun x w' => x = .returned (.bool true) ∧ Below w.heap.size w w' := by
  have HL := Lib.hid hL
  have SH := Lib.hid (shown_c w hL)
  have K1 := Lib.hid (fun W => cut2_c k0 W)
  have K2 := Lib.hid (fun W => cut2_c n0 W)
  have hn := cut2_size n0
  generalize cut2 k0 = k at *
  generalize cut2 n0 = n at *
  have C1 := Lib.hid (fun W h => Challenge_c a b W h)
  have R1 := Lib.hid (fun W => Right_c k W)
  clear hL
  rcases ch_two a b with hc | ⟨C, hC, hc⟩
  · rw [hc] at C1
    obtain ⟨f, hf, ha⟩ := ans_empty k n
    have A1 := Lib.hid (fun W h => Answer_c k ⟨#[]⟩ n (by decide) (by omega) W h)
    rw [ha] at A1
    have M1 := Lib.hid (fun W h => Mac_c k (⟨#[]⟩ ++ n) (by rw [ByteArray.size_append]; show 0 + n.size ≤ 90000; omega) W h)
    have he : (⟨#[]⟩ : ByteArray) ++ n = n := ByteArray.empty_append
    rw [he] at M1
    obtain ⟨T, G, hT⟩ : ∃ T G, macV k n = .tuple #[.string T, .int .i64 G] := by
      rcases mac_both k n with ⟨_, h⟩ | ⟨_, A, h⟩
      · exact ⟨_, _, h⟩
      · exact ⟨_, _, h⟩
    rw [hT] at M1

    clear hc ha he hT
    go_enter Tryd.func4, Tryd.ntmps4
    have B0 := Lib.hid (Below.refl w.heap.size w)
    go_wp2_with fail
    refine (SH.out).mono ?_; rintro e w1 ⟨rfl, hb⟩
    have B1 := Lib.hid (btr B0.out hb); clear hb
    go_wp2_with fail
    refine (K1.out _).mono ?_; rintro e w2 ⟨rfl, hb⟩
    have B2 := Lib.hid (btr B1.out hb); clear hb
    go_wp2_with fail
    refine (K2.out _).mono ?_; rintro e w3 ⟨rfl, hb⟩
    have B3 := Lib.hid (btr B2.out hb); clear hb
    go_wp2_with fail
    refine (C1.out _ (HL.out.on B3.out)).mono ?_; rintro e w4 ⟨rfl, hb⟩
    have B4 := Lib.hid (btr B3.out hb); clear hb
    go_wp2_with fail
    refine (A1.out _ (HL.out.on B4.out)).mono ?_; rintro e w5 ⟨rfl, hb⟩
    have B5 := Lib.hid (btr B4.out hb); clear hb
    go_wp2_with fail
    refine (M1.out _ (HL.out.on B5.out)).mono ?_; rintro e w6 ⟨rfl, hb⟩
    have B6 := Lib.hid (btr B5.out hb); clear hb

    go_wp2
    go_ret
    exact ⟨ret_bool (by first | rfl | (simp; exact hf)), B6.out⟩
  · rw [hc] at C1
    have A1 := Lib.hid (fun W h => Answer_c k C n (by omega) (by omega) W h)
    rw [ans_mac k C n hC] at A1
    have M1 := Lib.hid (fun W h => Mac_c k (C ++ n) (by rw [ByteArray.size_append]; omega) W h)
    clear hc
    rcases mac_both k (C ++ n) with ⟨hk, h⟩ | ⟨hk, A, h⟩
    all_goals
      rw [h] at A1 M1
      rw [hk] at R1
      clear h hk
      go_enter Tryd.func4, Tryd.ntmps4
      have B0 := Lib.hid (Below.refl w.heap.size w)
      go_wp2_with fail
      refine (SH.out).mono ?_; rintro e w1 ⟨rfl, hb⟩
      have B1 := Lib.hid (btr B0.out hb); clear hb
      go_wp2_with fail
      refine (K1.out _).mono ?_; rintro e w2 ⟨rfl, hb⟩
      have B2 := Lib.hid (btr B1.out hb); clear hb
      go_wp2_with fail
      refine (K2.out _).mono ?_; rintro e w3 ⟨rfl, hb⟩
      have B3 := Lib.hid (btr B2.out hb); clear hb
      go_wp2_with fail
      refine (C1.out _ (HL.out.on B3.out)).mono ?_; rintro e w4 ⟨rfl, hb⟩
      have B4 := Lib.hid (btr B3.out hb); clear hb
      go_wp2_with fail
      refine (A1.out _ (HL.out.on B4.out)).mono ?_; rintro e w5 ⟨rfl, hb⟩
      have B5 := Lib.hid (btr B4.out hb); clear hb
      go_wp2_with fail
      refine (M1.out _ (HL.out.on B5.out)).mono ?_; rintro e w6 ⟨rfl, hb⟩
      have B6 := Lib.hid (btr B5.out hb); clear hb
      go_wp2_with fail
      refine (R1.out _).mono ?_; rintro e w7 ⟨rfl, hb⟩
      have B7 := Lib.hid (btr B6.out hb); clear hb

      go_wp2
      go_ret
      exact ⟨ret_bool (by first | rfl | simp), B7.out⟩
end Go.Proofs.YtjlpkndbnaknaaaDoor

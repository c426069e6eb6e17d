/- shown, cut. -/
import Derived.Test.YtjlpkndbnaknaaaGreatDoorCg
import Derived.Test.YtjlpkndbnaknaaaGreatDoorSm
import Derived.Test.YtjlpkndbnaknaaaGreatDoorK
namespace Go.Proofs.YtjlpkndbnaknaaaGreatDoor
open Go.RowKit Go.Shelf
attribute [local go_sem] Oper.semAt_some

theorem sumL_lt (l : List Nat) : ∀ c ∈ sumL l, c < 256 := textS_lt _
theorem sumL_length (l : List Nat) : (sumL l).length = 32 := textS_length _
theorem macL_lt (k l : List Nat) : ∀ c ∈ macL k l, c < 256 := sumL_lt _
theorem macL_length (k l : List Nat) : (macL k l).length = 32 := sumL_length _
theorem hex_of (l : List Nat) (hl : ∀ c ∈ l, c < 256) (hz : l.length ≤ 100000) (t : ByteArray) (ht : hexL l = bL t) (w : World) : Calls Tryz.prog 16 #[.string (ofL l)] w fun r w' => r = .returned (.string t) ∧ Below w.heap.size w w' := by
  have := Hex_c (ofL l) (by rw [ofL_size]; exact hz) w
  rw [bL_ofL l hl, ht, ofL_bL] at this
  exact this
def cut2 (s : ByteArray) : ByteArray := s.extract 0 (min (s.size : Int) 200).toNat
theorem cut2_size (s : ByteArray) : (cut2 s).size ≤ 200 := by unfold cut2; rw [ByteArray.size_extract]; omega
set_option maxRecDepth 100000 in
theorem cut2_c (s : ByteArray) (w : World) : Calls Tryz.prog 6 #[.string s] w fun x w' => x = .returned (.string (cut2 s)) ∧ Below w.heap.size w w' := by
  go_enter Tryz.func6, Tryz.ntmps6
  go_wp2
  all_goals
    go_ret
    refine ⟨?_, Below.refl _ _⟩
    first
      | rfl
      | (unfold cut2; rw [show (min (s.size : Int) 200).toNat = 200 by omega]; rfl)
      | (unfold cut2; rw [show (min (s.size : Int) 200).toNat = s.size by omega, ByteArray.extract_zero_size]; rfl)
theorem chT_12 : chT 1 2 = ⟨#[99, 104, 97, 108, 108, 101, 110, 103, 101, 32, 49, 32, 50]⟩ := by
  have h1 : itB 1 = ⟨#[49]⟩ := by unfold itB; rw [show (1 : Int) = ((1 : Nat) : Int) from rfl, Lib.itoa_nonneg, Lib.decDigits_one (by omega)]; rfl
  have h2 : itB 2 = ⟨#[50]⟩ := by unfold itB; rw [show (2 : Int) = ((2 : Nat) : Int) from rfl, Lib.itoa_nonneg, Lib.decDigits_one (by omega)]; rfl
  unfold chT
  rw [h1, h2]
  decide
set_option maxRecDepth 100000 in
set_option maxHeartbeats 4000000 in
theorem shown_c (w : World) (hL : Lay w) : Calls Tryz.prog 5 #[] w fun x w' => x = .returned (.bool true) ∧ Below w.heap.size w w' := by
  have HL := Lib.hid hL
  have hK : ("key".toList.map Char.toNat) = bL ⟨#[107, 101, 121]⟩ := by decide
  have hF : ("The quick brown fox jumps over the lazy dog".toList.map Char.toNat) = bL ⟨#[84, 104, 101, 32, 113, 117, 105, 99, 107, 32, 98, 114, 111, 119, 110, 32, 102, 111, 120, 32, 106, 117, 109, 112, 115, 32, 111, 118, 101, 114, 32, 116, 104, 101, 32, 108, 97, 122, 121, 32, 100, 111, 103]⟩ := by decide
  have hX := macL_known
  rw [hK, hF] at hX
  have M1 := Lib.hid (fun W h => Mac_c ⟨#[107, 101, 121]⟩ ⟨#[84, 104, 101, 32, 113, 117, 105, 99, 107, 32, 98, 114, 111, 119, 110, 32, 102, 111, 120, 32, 106, 117, 109, 112, 115, 32, 111, 118, 101, 114, 32, 116, 104, 101, 32, 108, 97, 122, 121, 32, 100, 111, 103]⟩ (by decide) W h)
  rw [show macV ⟨#[107, 101, 121]⟩ ⟨#[84, 104, 101, 32, 113, 117, 105, 99, 107, 32, 98, 114, 111, 119, 110, 32, 102, 111, 120, 32, 106, 117, 109, 112, 115, 32, 111, 118, 101, 114, 32, 116, 104, 101, 32, 108, 97, 122, 121, 32, 100, 111, 103]⟩ = .tuple #[.string (ofL (macL (bL ⟨#[107, 101, 121]⟩) (bL ⟨#[84, 104, 101, 32, 113, 117, 105, 99, 107, 32, 98, 114, 111, 119, 110, 32, 102, 111, 120, 32, 106, 117, 109, 112, 115, 32, 111, 118, 101, 114, 32, 116, 104, 101, 32, 108, 97, 122, 121, 32, 100, 111, 103]⟩))), .int .i64 0] from rfl] at M1
  have X1 := Lib.hid (fun W => hex_of (macL (bL ⟨#[107, 101, 121]⟩) (bL ⟨#[84, 104, 101, 32, 113, 117, 105, 99, 107, 32, 98, 114, 111, 119, 110, 32, 102, 111, 120, 32, 106, 117, 109, 112, 115, 32, 111, 118, 101, 114, 32, 116, 104, 101, 32, 108, 97, 122, 121, 32, 100, 111, 103]⟩)) (macL_lt _ _) (by rw [macL_length]; decide) ⟨#[102, 55, 98, 99, 56, 51, 102, 52, 51, 48, 53, 51, 56, 52, 50, 52, 98, 49, 51, 50, 57, 56, 101, 54, 97, 97, 54, 102, 98, 49, 52, 51, 101, 102, 52, 100, 53, 57, 97, 49, 52, 57, 52, 54, 49, 55, 53, 57, 57, 55, 52, 55, 57, 100, 98, 99, 50, 100, 49, 97, 51, 99, 100, 56]⟩ (hX.trans (by decide)) W)
  have C1 := Lib.hid (fun W h => Challenge_c 1 2 W h)
  rw [show chV 1 2 = .tuple #[.string (ofL (sumL (bL (chT 1 2)))), .int .i64 0] from rfl, chT_12] at C1
  have S1 := Lib.hid (fun W h => Sum_c ⟨#[99, 104, 97, 108, 108, 101, 110, 103, 101, 32, 49, 32, 50]⟩ (by decide) W h)
  have C2 := Lib.hid (fun W h => Challenge_c (-1) 0 W h)
  rw [show chV (-1) 0 = .tuple #[.string ⟨#[]⟩, .int .i64 2] from rfl] at C2
  have hcs : (ofL (sumL (bL ⟨#[99, 104, 97, 108, 108, 101, 110, 103, 101, 32, 49, 32, 50]⟩))).size ≤ 1000 := by rw [ofL_size, sumL_length]; decide
  generalize ofL (sumL (bL ⟨#[99, 104, 97, 108, 108, 101, 110, 103, 101, 32, 49, 32, 50]⟩)) = CS at *
  generalize ofL (macL (bL ⟨#[107, 101, 121]⟩) (bL ⟨#[84, 104, 101, 32, 113, 117, 105, 99, 107, 32, 98, 114, 111, 119, 110, 32, 102, 111, 120, 32, 106, 117, 109, 112, 115, 32, 111, 118, 101, 114, 32, 116, 104, 101, 32, 108, 97, 122, 121, 32, 100, 111, 103]⟩)) = MS at *
  have A1 := Lib.hid (fun W h => Answer_c ⟨#[]⟩ CS ⟨#[97]⟩ hcs (by decide) W h)
  rw [show ansV ⟨#[]⟩ CS ⟨#[97]⟩ = .tuple #[.string ⟨#[]⟩, .int .i64 50] from rfl] at A1
  have A2 := Lib.hid (fun W h => Answer_c ⟨#[107]⟩ ⟨#[]⟩ ⟨#[97]⟩ (by decide) (by decide) W h)
  rw [show ansV ⟨#[107]⟩ ⟨#[]⟩ ⟨#[97]⟩ = .tuple #[.string ⟨#[]⟩, .int .i64 2] from rfl] at A2
  have E1 := Lib.hid (fun W => Same_c ⟨#[97]⟩ ⟨#[97]⟩ (by decide) (by decide) W)
  rw [show decide (bL ⟨#[97]⟩ = bL ⟨#[97]⟩) = true by decide] at E1
  have E2 := Lib.hid (fun W => Same_c ⟨#[97]⟩ ⟨#[98]⟩ (by decide) (by decide) W)
  rw [show decide (bL ⟨#[97]⟩ = bL ⟨#[98]⟩) = false by decide] at E2
  clear hL hK hF hX hcs
  go_enter Tryz.func5, Tryz.ntmps5
  go_wp2_with fail
  have B0 : Below w.heap.size w w := Below.refl _ w
  replace B0 := Lib.hid B0
  refine (M1.out _ (HL.out.on B0.out)).mono ?_; rintro e w1 ⟨rfl, hb⟩
  have B1 : RowKit.Hid (Below w.heap.size w w1) := Lib.hid (btr B0.out hb)
  clear hb
  go_wp2_with fail
  refine (C1.out _ (HL.out.on B1.out)).mono ?_; rintro e w2 ⟨rfl, hb⟩
  have B2 : RowKit.Hid (Below w.heap.size w w2) := Lib.hid (btr B1.out hb)
  clear hb
  go_wp2_with fail
  refine (A1.out _ (HL.out.on B2.out)).mono ?_; rintro e w3 ⟨rfl, hb⟩
  have B3 : RowKit.Hid (Below w.heap.size w w3) := Lib.hid (btr B2.out hb)
  clear hb
  go_wp2_with fail
  refine (A2.out _ (HL.out.on B3.out)).mono ?_; rintro e w4 ⟨rfl, hb⟩
  have B4 : RowKit.Hid (Below w.heap.size w w4) := Lib.hid (btr B3.out hb)
  clear hb
  go_wp2_with fail
  refine (C2.out _ (HL.out.on B4.out)).mono ?_; rintro e w5 ⟨rfl, hb⟩
  have B5 : RowKit.Hid (Below w.heap.size w w5) := Lib.hid (btr B4.out hb)
  clear hb
  go_wp2_with fail
  refine (X1.out _).mono ?_; rintro e w6 ⟨rfl, hb⟩
  have B6 : RowKit.Hid (Below w.heap.size w w6) := Lib.hid (btr B5.out hb)
  clear hb
  go_wp2_with fail
  refine (S1.out _ (HL.out.on B6.out).tabs).mono ?_; rintro e w7 ⟨rfl, hb⟩
  have B7 : RowKit.Hid (Below w.heap.size w w7) := Lib.hid (btr B6.out hb)
  clear hb
  go_wp2_with fail
  refine (E1.out _).mono ?_; rintro e w8 ⟨rfl, hb⟩
  have B8 : RowKit.Hid (Below w.heap.size w w8) := Lib.hid (btr B7.out hb)
  clear hb
  go_wp2_with fail
  refine (E2.out _).mono ?_; rintro e w9 ⟨rfl, hb⟩
  have B9 : RowKit.Hid (Below w.heap.size w w9) := Lib.hid (btr B8.out hb)
  clear hb
  go_wp2
  go_ret
  exact ⟨ret_bool (by first | rfl | (simp <;> omega)), B9.out⟩
end Go.Proofs.YtjlpkndbnaknaaaGreatDoor

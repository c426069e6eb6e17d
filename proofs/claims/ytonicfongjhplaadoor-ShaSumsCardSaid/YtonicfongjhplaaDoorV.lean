/- shown. -/
import Derived.Test.YtonicfongjhplaaDoorS
import Derived.Test.YtonicfongjhplaaDoorU
import Derived.Test.YtonicfongjhplaaDoorK
namespace Go.Proofs.YtonicfongjhplaaDoor
open Go.RowKit Go.Shelf
attribute [local go_sem] Oper.semAt_some

theorem padL_lt (s : ByteArray) : ∀ c ∈ padL (bL s), c < 256 := by
  intro c hc
  rw [padL_split] at hc
  rcases List.mem_append.1 hc with h | h
  · exact bL_lt s c (List.mem_of_mem_take h)
  · exact endL_lt s c h
theorem sumL_lt (l : List Nat) : ∀ c ∈ sumL l, c < 256 := textS_lt _
theorem sumL_length (l : List Nat) : (sumL l).length = 32 := textS_length _
theorem sum_abc (w : World) (hT : Tabs w) : Calls Tryd.prog 11 #[.string ⟨#[97, 98, 99]⟩] w fun r w' => r = .returned (.string (ofL (sumL [97, 98, 99]))) ∧ Below w.heap.size w w' := Sum_c ⟨#[97, 98, 99]⟩ (by decide) w hT
theorem sum_nil (w : World) (hT : Tabs w) : Calls Tryd.prog 11 #[.string ⟨#[]⟩] w fun r w' => r = .returned (.string (ofL (sumL []))) ∧ Below w.heap.size w w' := Sum_c ⟨#[]⟩ (by decide) w hT
theorem hex_of (l : List Nat) (hl : ∀ c ∈ l, c < 256) (hz : l.length ≤ 100000) (t : ByteArray) (ht : hexL l = bL t) (w : World) : Calls Tryd.prog 17 #[.string (ofL l)] w fun r w' => r = .returned (.string t) ∧ Below w.heap.size w w' := by
  have := Hex_c (ofL l) (by rw [ofL_size]; exact hz) w
  rw [bL_ofL l hl, ht, ofL_bL] at this
  exact this
theorem un_ff (w : World) : Calls Tryd.prog 15 #[.string ⟨#[48, 48, 102, 102]⟩] w fun r w' => r = .returned (.tuple #[.string ⟨#[0, 255]⟩, .int .i64 0]) ∧ Below w.heap.size w w' := by
  have := Unhex_c ⟨#[48, 48, 102, 102]⟩ (by decide) w
  rw [(un_some (s := ⟨#[48, 48, 102, 102]⟩) (v := [0, 255]) (by decide)).1, (un_some (s := ⟨#[48, 48, 102, 102]⟩) (v := [0, 255]) (by decide)).2] at this
  exact this
theorem un_of (w : World) : Calls Tryd.prog 15 #[.string ⟨#[48, 70]⟩] w fun r w' => r = .returned (.tuple #[.string ⟨#[]⟩, .int .i64 40]) ∧ Below w.heap.size w w' := by
  have := Unhex_c ⟨#[48, 70]⟩ (by decide) w
  rw [(un_none (s := ⟨#[48, 70]⟩) (by decide)).1, (un_none (s := ⟨#[48, 70]⟩) (by decide)).2] at this
  exact this
theorem pad_nil (w : World) : Calls Tryd.prog 13 #[.string ⟨#[]⟩] w fun r w' => (∃ t : ByteArray, t.size = 64 ∧ r = .returned (.string t)) ∧ Below w.heap.size w w' :=
  (Pad_c ⟨#[]⟩ (by decide) w).mono fun e w' ⟨h1, h2⟩ => ⟨⟨_, by rw [ofL_size]; rfl, h1⟩, h2⟩
set_option maxRecDepth 100000 in
set_option maxHeartbeats 4000000 in
theorem shown_c (w : World) (hT : Tabs w) : Calls Tryd.prog 9 #[] w fun x w' => x = .returned (.bool true) ∧ Below w.heap.size w w' := by
  have HT := Lib.hid hT
  have S1 := Lib.hid (fun W h => sum_abc W h)
  have S2 := Lib.hid (fun W h => sum_nil W h)
  have X1 := Lib.hid (fun W => hex_of (sumL [97, 98, 99]) (sumL_lt _) (by rw [sumL_length]; decide) ⟨#[98, 97, 55, 56, 49, 54, 98, 102, 56, 102, 48, 49, 99, 102, 101, 97, 52, 49, 52, 49, 52, 48, 100, 101, 53, 100, 97, 101, 50, 50, 50, 51, 98, 48, 48, 51, 54, 49, 97, 51, 57, 54, 49, 55, 55, 97, 57, 99, 98, 52, 49, 48, 102, 102, 54, 49, 102, 50, 48, 48, 49, 53, 97, 100]⟩ (sumL_abc.trans (by decide)) W)
  have X2 := Lib.hid (fun W => hex_of (sumL []) (sumL_lt _) (by rw [sumL_length]; decide) ⟨#[101, 51, 98, 48, 99, 52, 52, 50, 57, 56, 102, 99, 49, 99, 49, 52, 57, 97, 102, 98, 102, 52, 99, 56, 57, 57, 54, 102, 98, 57, 50, 52, 50, 55, 97, 101, 52, 49, 101, 52, 54, 52, 57, 98, 57, 51, 52, 99, 97, 52, 57, 53, 57, 57, 49, 98, 55, 56, 53, 50, 98, 56, 53, 53]⟩ (sumL_nil.trans (by decide)) W)
  have U1 := Lib.hid (fun W => un_ff W)
  have U2 := Lib.hid (fun W => un_of W)
  have P1 := Lib.hid (fun W => pad_nil W)
  generalize ofL (sumL [97, 98, 99]) = A at *
  generalize ofL (sumL []) = B at *
  clear hT
  go_enter Tryd.func9, Tryd.ntmps9
  go_wp2_with fail
  have B0 : Below w.heap.size w w := Below.refl _ w
  replace B0 := Lib.hid B0
  refine (S1.out _ (HT.out.on B0.out)).mono ?_; rintro e w1 ⟨rfl, hb⟩
  have B1 : RowKit.Hid (Below w.heap.size w w1) := Lib.hid (btr B0.out hb)
  clear hb
  go_wp2_with fail
  refine (X1.out _).mono ?_; rintro e w2 ⟨rfl, hb⟩
  have B2 : RowKit.Hid (Below w.heap.size w w2) := Lib.hid (btr B1.out hb)
  clear hb
  go_wp2_with fail
  refine (S2.out _ (HT.out.on B2.out)).mono ?_; rintro e w3 ⟨rfl, hb⟩
  have B3 : RowKit.Hid (Below w.heap.size w w3) := Lib.hid (btr B2.out hb)
  clear hb
  go_wp2_with fail
  refine (X2.out _).mono ?_; rintro e w4 ⟨rfl, hb⟩
  have B4 : RowKit.Hid (Below w.heap.size w w4) := Lib.hid (btr B3.out hb)
  clear hb
  go_wp2_with fail
  refine (U1.out _).mono ?_; rintro e w5 ⟨rfl, hb⟩
  have B5 : RowKit.Hid (Below w.heap.size w w5) := Lib.hid (btr B4.out hb)
  clear hb
  go_wp2_with fail
  refine (U2.out _).mono ?_; rintro e w6 ⟨rfl, hb⟩
  have B6 : RowKit.Hid (Below w.heap.size w w6) := Lib.hid (btr B5.out hb)
  clear hb
  go_wp2_with fail
  refine (P1.out _).mono ?_; rintro e w7 ⟨⟨tp, htp, rfl⟩, hb⟩
  have B7 : RowKit.Hid (Below w.heap.size w w7) := Lib.hid (btr B6.out hb)
  clear hb
  go_wp2
  go_ret
  exact ⟨ret_bool (by first | rfl | (simp <;> omega)), B7.out⟩
end Go.Proofs.YtonicfongjhplaaDoor

/- The law WirePieces. -/
import Derived.Test.YtdcnpcdohgecbaaDoorPN
import Derived.Laws.AppendOwnNone
namespace Go.Proofs.YtdcnpcdohgecbaaDoor
open Go.RowKit Go.Shelf
attribute [local go_sem] Oper.semAt_some

theorem fCells_one (l : List FrT) : ∀ u ∈ fCells l, u.oneCell' = true := by
  induction l with
  | nil => intro u h; cases h
  | cons f l ih =>
    intro u h
    simp only [fCells, List.mem_cons] at h
    rcases h with rfl | rfl | rfl | h
    · rfl
    · rfl
    · rfl
    · exact ih u h
/-- A row's value: nil, or it lies somewhere. -/
theorem row_cells {W : World} {z : Nat} {t : TypeId} {n k : Nat} {v : Value} {xs : List Value} (h : W.ownsRow z t n v k xs) : (v = .slice none 0 0 ∧ k = 0) ∨ ∃ g c, v = .slice (some ⟨g, 0, none⟩) k c ∧ ∀ j u, xs[j]? = some u → W.cell? ((⟨g, 0, none⟩ : Addr).add j) = some u := by
  rcases h.2 with h1 | ⟨g, cap, cur, rfl, _, hgb, _, _, hsz, htk⟩
  · exact .inl h1
  · refine .inr ⟨g, cap, rfl, fun j u hj => ?_⟩
    have hj2 : j < k * n := by
      have h3 := (List.getElem?_eq_some_iff.1 hj).1
      have h4 := h.1
      omega
    rw [← htk, List.getElem?_take_of_lt hj2] at hj
    have : (⟨g, 0, none⟩ : Addr).add j = ⟨g, 0 + j, none⟩ := by unfold Addr.add; split <;> simp_all
    rw [this]
    simp only [World.cell?, hgb, Nat.zero_add]
    simpa using hj
set_option maxRecDepth 100000 in
set_option maxHeartbeats 16000000 in
theorem pieces_a (s0 s : ByteArray) (n1 : Int) (w : World) (hL : ErrT w) (S0 : Hid (∀ W, ErrT W → Calls Tryd.prog 10 #[] W fun x w' => x = .returned (.bool true) ∧ Below W.heap.size W w')) (CU : Hid (∀ W, Calls Tryd.prog 12 #[.string s0] W fun x w' => x = .returned (.string s) ∧ Below W.heap.size W w')) (h : n1 < 0) :
    Calls Tryd.prog 7 #[.string s0, .int .i64 n1] w fun x w' => x = .returned (.bool true) ∧ Below w.heap.size w w' := by
  have HL := Lib.hid hL
  clear hL
  go_enter Tryd.func7, Tryd.ntmps7
  go_wp2_with fail
  have B0 : Below w.heap.size w w := Below.refl _ w
  replace B0 := Lib.hid B0
  refine (S0.out _ (HL.out.on B0.out)).mono ?_; rintro e w1 ⟨rfl, hb⟩
  have B1 : RowKit.Hid (Below w.heap.size w w1) := Lib.hid (btr B0.out hb)
  clear hb
  go_wp2_with fail
  refine (CU.out _).mono ?_; rintro e w2 ⟨rfl, hb⟩
  have B2 : RowKit.Hid (Below w.heap.size w w2) := Lib.hid (btr B1.out hb)
  clear hb
  go_wp2
  go_ret
  exact ⟨ret_bool (by first | rfl | (simp <;> omega)), B2.out⟩

set_option maxRecDepth 100000 in
set_option maxHeartbeats 16000000 in
theorem pieces_b (s0 s : ByteArray) (n1 : Int) (w : World) (hL : ErrT w) (S0 : Hid (∀ W, ErrT W → Calls Tryd.prog 10 #[] W fun x w' => x = .returned (.bool true) ∧ Below W.heap.size W w')) (CU : Hid (∀ W, Calls Tryd.prog 12 #[.string s0] W fun x w' => x = .returned (.string s) ∧ Below W.heap.size W w')) (h : ¬ n1 < 0) (h2 : (s.size : Int) < n1) :
    Calls Tryd.prog 7 #[.string s0, .int .i64 n1] w fun x w' => x = .returned (.bool true) ∧ Below w.heap.size w w' := by
  have HL := Lib.hid hL
  clear hL
  go_enter Tryd.func7, Tryd.ntmps7
  go_wp2_with fail
  have B0 : Below w.heap.size w w := Below.refl _ w
  replace B0 := Lib.hid B0
  refine (S0.out _ (HL.out.on B0.out)).mono ?_; rintro e w1 ⟨rfl, hb⟩
  have B1 : RowKit.Hid (Below w.heap.size w w1) := Lib.hid (btr B0.out hb)
  clear hb
  go_wp2_with fail
  refine (CU.out _).mono ?_; rintro e w2 ⟨rfl, hb⟩
  have B2 : RowKit.Hid (Below w.heap.size w w2) := Lib.hid (btr B1.out hb)
  clear hb
  go_wp2
  go_ret
  exact ⟨ret_bool (by first | rfl | (simp <;> omega)), B2.out⟩

set_option maxRecDepth 100000 in
set_option maxHeartbeats 16000000 in
theorem pieces_c (s0 s p : ByteArray) (n : Nat) (m e : Int) (gs : List FrT) (w : World) (hL : ErrT w) (S0 : Hid (∀ W, ErrT W → Calls Tryd.prog 10 #[] W fun x w' => x = .returned (.bool true) ∧ Below W.heap.size W w')) (CU : Hid (∀ W, Calls Tryd.prog 12 #[.string s0] W fun x w' => x = .returned (.string s) ∧ Below W.heap.size W w')) (hn : ¬ (s.size : Int) < (n : Int)) (hn0 : ¬ (n : Int) < 0) (hsl : ∀ W, (Instr.slice 9 (.string s) none (some (.int .i64 (n : Int))) none).run Tryd.prog W = .ok (.string p) W) (A1 : Hid (∀ W, ErrT W → Calls Tryd.prog 23 #[.string s] W fun x w' => ∃ v : Value, x = .returned (.tuple #[v, .int .i64 m, .int .i64 e]) ∧ w'.ownsRow W.heap.size 23 3 v gs.length (fCells gs) ∧ Below W.heap.size W w'))
    (A2 : Hid (∀ W, ErrT W → Calls Tryd.prog 23 #[.string p] W fun x w' => ∃ v : Value, x = .returned (.tuple #[v, .int .i64 m, .int .i64 e]) ∧ w'.ownsRow W.heap.size 23 3 v gs.length (fCells gs) ∧ Below W.heap.size W w'))
    (SM : Hid (∀ (a b : Option Addr) (c1 c2 : Nat) W, FramesAt W.heap.size W a gs → FramesAt W.heap.size W b gs → Calls Tryd.prog 25 #[.slice a gs.length c1, .slice b gs.length c2] W fun x w' => x = .returned (.bool true) ∧ Below W.heap.size W w')) (he : (e != 0) = true) (_he0 : (e == 0) = false) :
    Calls Tryd.prog 7 #[.string s0, .int .i64 (n : Int)] w fun x w' => x = .returned (.bool true) ∧ Below w.heap.size w w' := by
  have HL := Lib.hid hL
  clear hL
  go_enter Tryd.func7, Tryd.ntmps7
  go_wp2_with fail
  have B0 : Below w.heap.size w w := Below.refl _ w
  replace B0 := Lib.hid B0
  refine (S0.out _ (HL.out.on B0.out)).mono ?_; rintro e w1 ⟨rfl, hb⟩
  have B1 : RowKit.Hid (Below w.heap.size w w1) := Lib.hid (btr B0.out hb)
  clear hb
  go_wp2_with fail
  refine (CU.out _).mono ?_; rintro e w2 ⟨rfl, hb⟩
  have B2 : RowKit.Hid (Below w.heap.size w w2) := Lib.hid (btr B1.out hb)
  clear hb
  go_wp2_with fail
  refine (A1.out _ (HL.out.on B2.out)).mono ?_; rintro e w3 ⟨v1, rfl, ho1, hb⟩
  obtain ⟨a1, c1, rfl, hc1, hF1⟩ := frames_of_row2 rfl ho1
  clear ho1
  have B3 : RowKit.Hid (Below w.heap.size w w3) := Lib.hid (btr B2.out hb)
  clear hb
  go_wp2_with fail
  refine (A2.out _ (HL.out.on B3.out)).mono ?_; rintro e w4 ⟨v2, rfl, ho2, hb⟩
  obtain ⟨a2, c2, rfl, hc2, hF2⟩ := frames_of_row2 rfl ho2
  have HF2 := Lib.hid hF2
  have HF1 := Lib.hid ((hF1.below hb).mono hb.size)
  clear ho2 hF1 hF2
  have B4 : RowKit.Hid (Below w.heap.size w w4) := Lib.hid (btr B3.out hb)
  clear hb
  go_wp2_with (refine (SM.out _ _ _ _ _ HF1.out HF2.out).mono ?_; rintro e w5 ⟨rfl, hb5⟩)
  go_ret
  exact ⟨ret_bool (by first | rfl | (simp <;> omega)), btr B4.out hb5⟩

set_option maxRecDepth 100000 in
set_option maxHeartbeats 16000000 in
theorem pieces_d (s0 s p q : ByteArray) (n m k : Nat) (e : Int) (gs hs : List FrT) (w : World) (hL : ErrT w) (S0 : Hid (∀ W, ErrT W → Calls Tryd.prog 10 #[] W fun x w' => x = .returned (.bool true) ∧ Below W.heap.size W w')) (CU : Hid (∀ W, Calls Tryd.prog 12 #[.string s0] W fun x w' => x = .returned (.string s) ∧ Below W.heap.size W w')) (hn : ¬ (s.size : Int) < (n : Int)) (hn0 : ¬ (n : Int) < 0) (hsl : ∀ W, (Instr.slice 9 (.string s) none (some (.int .i64 (n : Int))) none).run Tryd.prog W = .ok (.string p) W) (A1 : Hid (∀ W, ErrT W → Calls Tryd.prog 23 #[.string s] W fun x w' => ∃ v : Value, x = .returned (.tuple #[v, .int .i64 ((m : Int) + (k : Int)), .int .i64 e]) ∧ w'.ownsRow W.heap.size 23 3 v (gs.length + hs.length) (fCells (gs ++ hs)) ∧ Below W.heap.size W w'))
    (A2 : Hid (∀ W, ErrT W → Calls Tryd.prog 23 #[.string p] W fun x w' => ∃ v : Value, x = .returned (.tuple #[v, .int .i64 (m : Int), .int .i64 0]) ∧ w'.ownsRow W.heap.size 23 3 v gs.length (fCells gs) ∧ Below W.heap.size W w'))
    (hs2 : ∀ W, (Instr.slice 9 (.string s) (some (.int .i64 (m : Int))) none none).run Tryd.prog W = .ok (.string q) W) (A3 : Hid (∀ W, ErrT W → Calls Tryd.prog 23 #[.string q] W fun x w' => ∃ v : Value, x = .returned (.tuple #[v, .int .i64 (k : Int), .int .i64 e]) ∧ w'.ownsRow W.heap.size 23 3 v hs.length (fCells hs) ∧ Below W.heap.size W w'))
    (SM : Hid (∀ (a b : Option Addr) (c1 c2 : Nat) W, FramesAt W.heap.size W a (gs ++ hs) → FramesAt W.heap.size W b (gs ++ hs) → Calls Tryd.prog 25 #[.slice a (gs.length + hs.length) c1, .slice b (gs.length + hs.length) c2] W fun x w' => x = .returned (.bool true) ∧ Below W.heap.size W w')) (HGL : Hid (gs.length + hs.length ≤ 2000)) (hmk : IntKind.i64.wrap ((m : Int) + (k : Int)) = (m : Int) + (k : Int)) :
    Calls Tryd.prog 7 #[.string s0, .int .i64 (n : Int)] w fun x w' => x = .returned (.bool true) ∧ Below w.heap.size w w' := by
  have HL := Lib.hid hL
  clear hL
  have hN : (gs ++ hs).length = gs.length + hs.length := List.length_append
  obtain ⟨i0, hi, hz0, hz1, hz2'⟩ := info_parts infoFrame
  go_enter Tryd.func7, Tryd.ntmps7
  go_wp2_with fail
  have B0 : Below w.heap.size w w := Below.refl _ w
  replace B0 := Lib.hid B0
  refine (S0.out _ (HL.out.on B0.out)).mono ?_; rintro e w1 ⟨rfl, hb⟩
  have B1 : RowKit.Hid (Below w.heap.size w w1) := Lib.hid (btr B0.out hb)
  clear hb
  go_wp2_with fail
  refine (CU.out _).mono ?_; rintro e w2 ⟨rfl, hb⟩
  have B2 : RowKit.Hid (Below w.heap.size w w2) := Lib.hid (btr B1.out hb)
  clear hb
  go_wp2_with fail
  refine (A1.out _ (HL.out.on B2.out)).mono ?_; rintro e w3 ⟨v1, rfl, ho1, hb⟩
  obtain ⟨a1, c1, rfl, hc1, hF1⟩ := frames_of_row2 hN ho1
  clear ho1
  have B3 : RowKit.Hid (Below w.heap.size w w3) := Lib.hid (btr B2.out hb)
  clear hb
  go_wp2_with fail
  refine (A2.out _ (HL.out.on B3.out)).mono ?_; rintro e w4 ⟨v2, rfl, ho2, hb⟩
  have HF1 := Lib.hid ((hF1.below hb).mono hb.size)
  clear hF1
  have B4 : RowKit.Hid (Below w.heap.size w w4) := Lib.hid (btr B3.out hb)
  clear hb
  go_wp2_with fail
  refine (A3.out _ (HL.out.on B4.out)).mono ?_; rintro e w5 ⟨v3, rfl, ho3, hb⟩
  have HF3 := Lib.hid ((HF1.out.below hb).mono hb.size)
  have ho2' := (Goes.of_below (Pv := fun _ => False) hb).ownsRow ho2 (fun _ _ h => h)
  clear ho2 HF1
  have B5 : RowKit.Hid (Below w.heap.size w w5) := Lib.hid (btr B4.out hb)
  clear hb
  have hlg := HGL.out
  rcases row_cells ho2' with ⟨rfl, hz2⟩ | ⟨g2, c2, rfl, hcell2⟩
  · rcases row_cells ho3 with ⟨rfl, hz3⟩ | ⟨g3, c3, rfl, hcell3⟩
    · have hgs0 : gs = [] := List.length_eq_zero_iff.1 hz2
      have hhs0 : hs = [] := List.length_eq_zero_iff.1 hz3
      subst hgs0
      subst hhs0
      have hb7 : Below w5.heap.size w5 w5 := Below.refl _ _
      have ho7 : w5.ownsRow w5.heap.size 23 3 (.slice none 0 0) ([] : List FrT).length (fCells []) := World.ownsRow_nil _ _ _ _
      go_wp2_with (first | (at_builtin; refine wpList_append_own_none rfl (.tmp 68) (.tmp 69) 25 rfl w5.heap.size 23 i0 3 Tryd.underlying25 hi (.slice none 0 0) 0 [] rfl (World.ownsRow_nil _ _ _ _) rfl ?_) | (at_builtin; refine wpList_append_own_none rfl (.tmp 70) (.tmp 71) 25 rfl w5.heap.size 23 i0 3 Tryd.underlying25 hi (.slice none 0 0) 0 [] rfl ho7 rfl ?_))
      have hb8 := hb7
      have ho8 : w5.ownsRow w5.heap.size 23 3 (.slice none 0 0) (([] : List FrT).length + ([] : List FrT).length) (fCells ([] ++ [])) := ho7
      have hF6 : FramesAt w5.heap.size w5 none ([] ++ [] : List FrT) := by intro k hk; simp at hk
      have HF6 := Lib.hid hF6
      have HF7 := Lib.hid ((HF3.out.below hb8).mono hb8.size)
      have BF := Lib.hid (btr B5.out hb8)
      clear ho8 ho7 hb7 hb8 hF6
      go_wp2_with (refine (SM.out _ _ _ _ _ HF7.out HF6.out).mono ?_; rintro e w9 ⟨rfl, hb9⟩)
      go_ret
      exact ⟨ret_bool (by first | rfl | (simp <;> omega)), btr BF.out hb9⟩
    · have hgs : Hid (gs = []) := Lib.hid (List.length_eq_zero_iff.1 hz2)
      clear hz2
      have hb7 : Below w5.heap.size w5 w5 := Below.refl _ _
      have ho7 : w5.ownsRow w5.heap.size 23 3 (.slice none 0 0) gs.length (fCells gs) := by rw [hgs.out]; exact World.ownsRow_nil _ _ _ _
      go_wp2_with (first | (at_builtin; refine wpList_append_own_none rfl (.tmp 68) (.tmp 69) 25 rfl w5.heap.size 23 i0 3 Tryd.underlying25 hi (.slice none 0 0) 0 [] rfl (World.ownsRow_nil _ _ _ _) rfl ?_) | (at_builtin; refine wpList_append_own _ rfl (.tmp 70) (.tmp 71) 25 rfl w5.heap.size 23 i0 (.agg #[.int .i64 0, .int .i64 0, .string ⟨#[]⟩]) 3 32 Tryd.underlying25 hi hz0 hz1 hz2' rfl (by decide) (.slice none 0 0) gs.length (fCells gs) rfl ho7 ⟨g3, 0, none⟩ hs.length c3 (fCells hs) rfl (fCells_length _) hcell3 (fCells_one _) (by unfold maxLen; omega) (by omega) hb7.size ?_; intro v8 w8 ho8 hg8 _))
      have hb8 : Below w5.heap.size w5 w8 := hb7.grown hg8 hb7.size (fun j hj => (World.ownsRow.lt ho7 j hj).1)
      rw [← fCells_append] at ho8
      obtain ⟨a6, c6, he6, hc6, hF6⟩ := frames_of_row2 hN ho8
      subst he6
      have HF6 := Lib.hid hF6
      have HF7 := Lib.hid ((HF3.out.below hb8).mono hb8.size)
      have BF := Lib.hid (btr B5.out hb8)
      clear ho8 ho7 hb7 hb8 hF6 hg8 hcell3
      go_wp2_with (refine (SM.out _ _ _ _ _ HF7.out HF6.out).mono ?_; rintro e w9 ⟨rfl, hb9⟩)
      go_ret
      exact ⟨ret_bool (by first | rfl | (simp <;> omega)), btr BF.out hb9⟩
  · rcases row_cells ho3 with ⟨rfl, hz3⟩ | ⟨g3, c3, rfl, hcell3⟩
    · have hhs : Hid (hs = []) := Lib.hid (List.length_eq_zero_iff.1 hz3)
      clear hz3
      go_wp2_with (first | (at_builtin; refine wpList_append_own _ rfl (.tmp 68) (.tmp 69) 25 rfl w5.heap.size 23 i0 (.agg #[.int .i64 0, .int .i64 0, .string ⟨#[]⟩]) 3 32 Tryd.underlying25 hi hz0 hz1 hz2' rfl (by decide) (.slice none 0 0) 0 [] rfl (World.ownsRow_nil _ _ _ _) ⟨g2, 0, none⟩ gs.length c2 (fCells gs) rfl (fCells_length _) hcell2 (fCells_one _) (by unfold maxLen; omega) (by omega) (Nat.le_refl _) ?_; intro v7 w7 ho7 hg7 _; have hb7 : Below w5.heap.size w5 w7 := (Below.refl _ w5).grown hg7 (Nat.le_refl _) (fun j hj => by cases hj); replace ho7 : w7.ownsRow w5.heap.size 23 3 v7 gs.length (fCells gs) := (by simpa using ho7)) | (at_builtin; refine wpList_append_own_none rfl (.tmp 70) (.tmp 71) 25 rfl w5.heap.size 23 i0 3 Tryd.underlying25 hi v7 gs.length (fCells gs) rfl ho7 rfl ?_))
      have hb8 := hb7
      have ho8 : w7.ownsRow w5.heap.size 23 3 v7 (gs.length + hs.length) (fCells (gs ++ hs)) := by rw [hhs.out]; simpa using ho7
      obtain ⟨a6, c6, he6, hc6, hF6⟩ := frames_of_row2 hN ho8
      subst he6
      have HF6 := Lib.hid hF6
      have HF7 := Lib.hid ((HF3.out.below hb8).mono hb8.size)
      have BF := Lib.hid (btr B5.out hb8)
      clear ho8 ho7 hb7 hb8 hF6 hg7 hcell2 
      go_wp2_with (refine (SM.out _ _ _ _ _ HF7.out HF6.out).mono ?_; rintro e w9 ⟨rfl, hb9⟩)
      go_ret
      exact ⟨ret_bool (by first | rfl | (simp <;> omega)), btr BF.out hb9⟩
    · go_wp2_with (first | (at_builtin; refine wpList_append_own _ rfl (.tmp 68) (.tmp 69) 25 rfl w5.heap.size 23 i0 (.agg #[.int .i64 0, .int .i64 0, .string ⟨#[]⟩]) 3 32 Tryd.underlying25 hi hz0 hz1 hz2' rfl (by decide) (.slice none 0 0) 0 [] rfl (World.ownsRow_nil _ _ _ _) ⟨g2, 0, none⟩ gs.length c2 (fCells gs) rfl (fCells_length _) hcell2 (fCells_one _) (by unfold maxLen; omega) (by omega) (Nat.le_refl _) ?_; intro v7 w7 ho7 hg7 _; have hb7 : Below w5.heap.size w5 w7 := (Below.refl _ w5).grown hg7 (Nat.le_refl _) (fun j hj => by cases hj); replace ho7 : w7.ownsRow w5.heap.size 23 3 v7 gs.length (fCells gs) := (by simpa using ho7); replace hcell3 : ∀ j u, (fCells hs)[j]? = some u → w7.cell? ((⟨g3, 0, none⟩ : Addr).add j) = some u := fun j u h => (hb7.cell (p := (⟨g3, 0, none⟩ : Addr).add j) (World.block_lt_of_cell? _ _ (hcell3 j u h))).trans (hcell3 j u h)) | (at_builtin; refine wpList_append_own _ rfl (.tmp 70) (.tmp 71) 25 rfl w5.heap.size 23 i0 (.agg #[.int .i64 0, .int .i64 0, .string ⟨#[]⟩]) 3 32 Tryd.underlying25 hi hz0 hz1 hz2' rfl (by decide) v7 gs.length (fCells gs) rfl ho7 ⟨g3, 0, none⟩ hs.length c3 (fCells hs) rfl (fCells_length _) hcell3 (fCells_one _) (by unfold maxLen; omega) (by omega) hb7.size ?_; intro v8 w8 ho8 hg8 _))
      have hb8 : Below w5.heap.size w5 w8 := hb7.grown hg8 hb7.size (fun j hj => (World.ownsRow.lt ho7 j hj).1)
      rw [← fCells_append] at ho8
      obtain ⟨a6, c6, he6, hc6, hF6⟩ := frames_of_row2 hN ho8
      subst he6
      have HF6 := Lib.hid hF6
      have HF7 := Lib.hid ((HF3.out.below hb8).mono hb8.size)
      have BF := Lib.hid (btr B5.out hb8)
      clear ho8 ho7 hb7 hb8 hF6 hg7 hg8 hcell2 hcell3
      go_wp2_with (refine (SM.out _ _ _ _ _ HF7.out HF6.out).mono ?_; rintro e w9 ⟨rfl, hb9⟩)
      go_ret
      exact ⟨ret_bool (by first | rfl | (simp <;> omega)), btr BF.out hb9⟩
theorem wirePieces_c (s0 : ByteArray) (n1 : Int) (_bn : -9223372036854775808 ≤ n1 ∧ n1 ≤ 9223372036854775807) (w : World) (hL : ErrT w) : Calls Tryd.prog 7 #[.string s0, .int .i64 n1] w fun x w' => x = .returned (.bool true) ∧ Below w.heap.size w w' := by
  have S0 := Lib.hid (fun W h => shown_c W h)
  have CU := Lib.hid (fun W => cut2_c s0 W)
  have hs := cut2_size s0
  generalize cut2 s0 = s at *
  by_cases h : n1 < 0
  · exact pieces_a s0 s n1 w hL S0 CU h
  by_cases h2 : (s.size : Int) < n1
  · exact pieces_b s0 s n1 w hL S0 CU h h2
  obtain ⟨n, rfl⟩ : ∃ n : Nat, n1 = n := ⟨n1.toNat, by omega⟩
  have hsl : ∀ W, (Instr.slice 9 (.string s) none (some (.int .i64 (n : Int))) none).run Tryd.prog W = .ok (.string (s.extract 0 n)) W := fun W => by
    rw [run_slice_string_to_if (P := Tryd.prog) (w := W) (h := by kernel_rfl), if_pos ⟨by omega, by omega⟩]
    rfl
  have hp : (s.extract 0 n).data.toList = List.take n s.data.toList := by rw [sl_of (by omega) (by omega)]; simp
  have hps : (s.extract 0 n).size ≤ 2000 := by rw [ByteArray.size_extract]; omega
  generalize s.extract 0 n = p at *
  have hsz : s.data.toList.length = s.size := by simp
  have hpz : p.data.toList.length = p.size := by simp
  have hjoin : s.data.toList = p.data.toList ++ List.drop n s.data.toList := by rw [hp, List.take_append_drop]
  obtain ⟨gs, q, hA⟩ := alls_ex _ p.data.toList (Nat.le_refl _)
  have hgl := hA.len
  by_cases hq : hdE q = 30
  · have hm : (encs gs).length ≤ s.size := by have := congrArg List.length hA.1; rw [List.length_append] at this; have h5 := congrArg List.length hjoin; rw [List.length_append] at h5; omega
    have hs2 : ∀ W, (Instr.slice 9 (.string s) (some (.int .i64 ((encs gs).length : Int))) none none).run Tryd.prog W = .ok (.string (s.extract (encs gs).length s.size)) W := fun W => by
      rw [run_slice_string_from_if (P := Tryd.prog) (w := W) (h := by kernel_rfl), if_pos ⟨by omega, by omega⟩]
      rfl
    have ht : (s.extract (encs gs).length s.size).data.toList = q ++ List.drop n s.data.toList := by
      rw [sl_of hm (Nat.le_refl _), List.take_of_length_le (by simp)]
      conv => lhs; rw [hjoin, hA.1, List.append_assoc]
      simp
    have hts : (s.extract (encs gs).length s.size).size ≤ 2000 := by rw [ByteArray.size_extract]; omega
    generalize s.extract (encs gs).length s.size = t at *
    obtain ⟨fs, r, hB⟩ := alls_ex _ t.data.toList (Nat.le_refl _)
    have hfl := hB.len
    have htz : t.data.toList.length = t.size := by simp
    have hC : AllS s.data.toList (gs ++ fs) r := ⟨by rw [encs_append, List.append_assoc, ← hB.1, ht, ← List.append_assoc, ← hA.1]; exact hjoin, fun f hf => by
      rcases List.mem_append.1 hf with h | h
      · exact hA.2.1 f h
      · exact hB.2.1 f h, hB.2.2⟩
    have hcl := hC.len
    rw [List.length_append] at hcl
    have A1 := Lib.hid (fun W h => all2_c s (by omega) _ _ hC W h)
    have A2 := Lib.hid (fun W h => all2_c p (by omega) _ _ hA W h)
    have A3 := Lib.hid (fun W h => all2_c t (by omega) _ _ hB W h)
    have e1 : ((encs (gs ++ fs)).length : Int) = ((encs gs).length : Int) + ((encs fs).length : Int) := by rw [encs_append, List.length_append]; omega
    rw [e1, List.length_append] at A1
    rw [show errOf q = 0 by unfold errOf; rw [if_pos hq]] at A2
    have hkb : (encs fs).length ≤ 2000 := by have := congrArg List.length hB.1; rw [List.length_append] at this; omega
    exact pieces_d s0 s p t n _ _ _ gs fs w hL S0 CU (by omega) (by omega) hsl A1 A2 hs2 A3 (Lib.hid (fun a b c1 c2 W h1 h2 => same_c a b c1 c2 (gs ++ fs) _ List.length_append (by omega) W h1 h2)) (Lib.hid (by omega)) (IntWalk.i64_in _ (by omega))
  · have hC : AllS s.data.toList gs (q ++ List.drop n s.data.toList) := ⟨by rw [← List.append_assoc, ← hA.1]; exact hjoin, hA.2.1, by rw [hd_app hq]; exact hA.2.2⟩
    have A1 := Lib.hid (fun W h => all2_c s (by omega) _ _ hC W h)
    have A2 := Lib.hid (fun W h => all2_c p (by omega) _ _ hA W h)
    have ee : errOf (q ++ List.drop n s.data.toList) = errOf q := by unfold errOf; rw [hd_app hq]
    rw [ee] at A1
    have hne : errOf q ≠ 0 := by unfold errOf; rw [if_neg hq]; exact hA.2.2
    exact pieces_c s0 s p n _ _ gs w hL S0 CU (by omega) (by omega) hsl A1 A2 (Lib.hid (fun a b c1 c2 W h1 h2 => same_c a b c1 c2 gs _ rfl (by omega) W h1 h2)) (by simpa using hne) (by simpa using hne)
end Go.Proofs.YtdcnpcdohgecbaaDoor

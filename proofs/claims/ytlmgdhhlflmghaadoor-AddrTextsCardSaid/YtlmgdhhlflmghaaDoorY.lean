/- AddrBack: what it says, walked. -/
import Derived.Test.YtlmgdhhlflmghaaDoorX
namespace Go.Proofs.YtlmgdhhlflmghaaDoor
open Go.RowKit Go.Shelf
attribute [local go_sem] Oper.semAt_some


set_option maxRecDepth 100000 in
set_option maxHeartbeats 16000000 in
theorem back_no (a A K E F N H Q1 Q2 c I j R1 R2 k l : Int) (S1 S2 s0 s v x : ByteArray)
    (x1 : E = 60 ∨ (E = 0 ∧ F = 0 ∧ a = N)) (x3 : (I = 60 ∧ c = 0) ∨ (I = 0 ∧ j = 0 ∧ s = v)) (x4 : k = 61 ∨ (k = 0 ∧ l = 0 ∧ s = x))
    (w : World) (hT : Tabs w)
    (D0' : ∀ W, Calls Tryd.prog 11 #[.string s0] W fun y w' => y = .returned (.string s) ∧ W = w')
    (D1' : ∀ W, Tabs W → Calls Tryd.prog 12 #[.int .i64 a] W fun y w' => y = .returned (.tuple #[.string S1, .int .i64 E]) ∧ Below W.heap.size W w')
    (D2' : ∀ W, Calls Tryd.prog 14 #[.string S1] W fun y w' => y = .returned (.tuple #[.int .i64 N, .int .i64 F]) ∧ Below W.heap.size W w')
    (D3' : ∀ W, Tabs W → Calls Tryd.prog 16 #[.agg #[.int .i64 A, .int .i64 K]] W fun y w' => y = .returned (.tuple #[.string S2, .int .i64 61]) ∧ Below W.heap.size W w')
    (D4' : ∀ W, Calls Tryd.prog 18 #[.string S2] W fun y w' => y = .returned (.tuple #[.agg #[.int .i64 Q1, .int .i64 Q2], .int .i64 H]) ∧ Below W.heap.size W w')
    (D5' : ∀ W, Calls Tryd.prog 14 #[.string s] W fun y w' => y = .returned (.tuple #[.int .i64 c, .int .i64 I]) ∧ Below W.heap.size W w')
    (D6' : ∀ W, Tabs W → Calls Tryd.prog 12 #[.int .i64 c] W fun y w' => y = .returned (.tuple #[.string v, .int .i64 j]) ∧ Below W.heap.size W w')
    (D7' : ∀ W, Calls Tryd.prog 18 #[.string s] W fun y w' => y = .returned (.tuple #[.agg #[.int .i64 R1, .int .i64 R2], .int .i64 k]) ∧ Below W.heap.size W w')
    (D8' : ∀ W, Tabs W → Calls Tryd.prog 16 #[.agg #[.int .i64 R1, .int .i64 R2]] W fun y w' => y = .returned (.tuple #[.string x, .int .i64 l]) ∧ Below W.heap.size W w')
    (D9' : ∀ W, Calls Tryd.prog 20 #[.agg #[.int .i64 A, .int .i64 K]] W fun y w' => y = .returned (.bool false) ∧ Below W.heap.size W w')
    : Calls Tryd.prog 5 #[.int .i64 a, .agg #[.int .i64 A, .int .i64 K], .string s0] w fun y w' => y = .returned (.bool true) ∧ Below w.heap.size w w' := by
  have HS := Lib.hid (fun W h => shown_c W h)
  have HT := Lib.hid hT
  have D0 := Lib.hid D0'
  have D1 := Lib.hid D1'
  have D2 := Lib.hid D2'
  have D3 := Lib.hid D3'
  have D4 := Lib.hid D4'
  have D5 := Lib.hid D5'
  have D6 := Lib.hid D6'
  have D7 := Lib.hid D7'
  have D8 := Lib.hid D8'
  have D9 := Lib.hid D9'
  clear D0' D1' D2' D3' D4' D5' D6' D7' D8' D9' hT
  rcases x1 with rfl | ⟨rfl, rfl, rfl⟩ <;> rcases x3 with ⟨rfl, rfl⟩ | ⟨rfl, rfl, rfl⟩ <;> rcases x4 with rfl | ⟨rfl, rfl, rfl⟩
  all_goals
    go_enter Tryd.func5, Tryd.ntmps5
    go_wp2_with fail
    have x00 : (w.alloc (.cells #[.int .i64 A, .int .i64 K] 23)).cell? ⟨w.heap.size, 0, none⟩ = some (.int .i64 A) := by go_simp
    have x01 : (w.alloc (.cells #[.int .i64 A, .int .i64 K] 23)).cell? ⟨w.heap.size, 1, none⟩ = some (.int .i64 K) := by go_simp
    have B0 : Below w.heap.size w (w.alloc (.cells #[.int .i64 A, .int .i64 K] 23)) := (bal (Below.refl _ _) _)
    generalize (w.alloc (.cells #[.int .i64 A, .int .i64 K] 23)) = U at *
    have KK := Lib.hid (show ∀ W, Below U.heap.size U W → W.cell? ⟨w.heap.size, 0, none⟩ = some (.int .i64 A) ∧ W.cell? ⟨w.heap.size, 1, none⟩ = some (.int .i64 K) from fun W h => ⟨(h.cell (p := ⟨w.heap.size, 0, none⟩) (blt x00)).trans x00, (h.cell (p := ⟨w.heap.size, 1, none⟩) (blt x00)).trans x01⟩)
    refine (HS.out _ (HT.out.on B0)).mono ?_; rintro e w1 ⟨rfl, hb⟩
    have B1 := Lib.hid (btr B0 hb)
    have C1 := Lib.hid (btr (Below.refl _ _) hb)
    clear hb x00 x01
    obtain ⟨c1_00, c1_01⟩ := KK.out w1 C1.out
    clear HS
    go_wp2_with fail
    refine (D0.out _).mono ?_; rintro e _ ⟨rfl, rfl⟩
    go_wp2_with fail
    refine (D1.out _ (HT.out.on B1.out)).mono ?_; rintro e w2 ⟨rfl, hb⟩
    have B2 := Lib.hid (btr B1.out hb)
    have C2 := Lib.hid (btr C1.out hb)
    clear hb c1_00 c1_01
    obtain ⟨c2_00, c2_01⟩ := KK.out w2 C2.out
    go_wp2_with fail
    refine (D2.out _).mono ?_; rintro e w3 ⟨rfl, hb⟩
    have B3 := Lib.hid (btr B2.out hb)
    have C3 := Lib.hid (btr C2.out hb)
    clear hb c2_00 c2_01
    obtain ⟨c3_00, c3_01⟩ := KK.out w3 C3.out
    go_wp2_with fail
    refine (D3.out _ (HT.out.on B3.out)).mono ?_; rintro e w4 ⟨rfl, hb⟩
    have B4 := Lib.hid (btr B3.out hb)
    have C4 := Lib.hid (btr C3.out hb)
    clear hb c3_00 c3_01
    obtain ⟨c4_00, c4_01⟩ := KK.out w4 C4.out
    go_wp2_with fail
    refine (D4.out _).mono ?_; rintro e w5 ⟨rfl, hb⟩
    have B5 := Lib.hid (btr B4.out hb)
    have C5 := Lib.hid (btr C4.out hb)
    clear hb c4_00 c4_01
    obtain ⟨c5_00, c5_01⟩ := KK.out w5 C5.out
    clear D0 D1 D2 D3 D4
    have bB := KK.out (w5.alloc (.cells #[.int .i64 Q1, .int .i64 Q2] 23)) (bal C5.out _)
    have b0 := bB.1
    have b1 := bB.2
    clear bB
    go_wp2_with fail
    refine (D5.out _).mono ?_; rintro e w6 ⟨rfl, hb⟩
    have B6 := Lib.hid (btr (bal B5.out _) hb)
    have C6 := Lib.hid (btr (bal C5.out _) hb)
    clear hb c5_00 c5_01 b0 b1
    obtain ⟨c6_00, c6_01⟩ := KK.out w6 C6.out
    go_wp2_with fail
    refine (D6.out _ (HT.out.on B6.out)).mono ?_; rintro e w7 ⟨rfl, hb⟩
    have B7 := Lib.hid (btr B6.out hb)
    have C7 := Lib.hid (btr C6.out hb)
    clear hb c6_00 c6_01
    obtain ⟨c7_00, c7_01⟩ := KK.out w7 C7.out
    go_wp2_with fail
    refine (D7.out _).mono ?_; rintro e w8 ⟨rfl, hb⟩
    have B8 := Lib.hid (btr B7.out hb)
    have C8 := Lib.hid (btr C7.out hb)
    clear hb c7_00 c7_01
    obtain ⟨c8_00, c8_01⟩ := KK.out w8 C8.out
    have bB := KK.out (w8.alloc (.cells #[.int .i64 R1, .int .i64 R2] 23)) (bal C8.out _)
    have b0 := bB.1
    have b1 := bB.2
    clear bB
    go_wp2_with fail
    refine (D8.out _ (HT.out.on (bal B8.out _))).mono ?_; rintro e w9 ⟨rfl, hb⟩
    have B9 := Lib.hid (btr (bal B8.out _) hb)
    have C9 := Lib.hid (btr (bal C8.out _) hb)
    clear hb c8_00 c8_01 b0 b1
    obtain ⟨c9_00, c9_01⟩ := KK.out w9 C9.out
    go_wp2_with fail
    refine (D9.out _).mono ?_; rintro e w10 ⟨rfl, hb⟩
    have B10 := Lib.hid (btr B9.out hb)
    have C10 := Lib.hid (btr C9.out hb)
    clear hb c9_00 c9_01
    obtain ⟨c10_00, c10_01⟩ := KK.out w10 C10.out
    go_wp2
    go_ret
    exact ⟨ret_bool (by first | rfl | (simp <;> omega)), B10.out⟩

set_option maxRecDepth 100000 in
set_option maxHeartbeats 16000000 in
theorem back_ok (a A K E F N c I j R1 R2 k l : Int) (S1 S2 s0 s v x : ByteArray)
    (x1 : E = 60 ∨ (E = 0 ∧ F = 0 ∧ a = N)) (x3 : (I = 60 ∧ c = 0) ∨ (I = 0 ∧ j = 0 ∧ s = v)) (x4 : k = 61 ∨ (k = 0 ∧ l = 0 ∧ s = x))
    (w : World) (hT : Tabs w)
    (D0' : ∀ W, Calls Tryd.prog 11 #[.string s0] W fun y w' => y = .returned (.string s) ∧ W = w')
    (D1' : ∀ W, Tabs W → Calls Tryd.prog 12 #[.int .i64 a] W fun y w' => y = .returned (.tuple #[.string S1, .int .i64 E]) ∧ Below W.heap.size W w')
    (D2' : ∀ W, Calls Tryd.prog 14 #[.string S1] W fun y w' => y = .returned (.tuple #[.int .i64 N, .int .i64 F]) ∧ Below W.heap.size W w')
    (D3' : ∀ W, Tabs W → Calls Tryd.prog 16 #[.agg #[.int .i64 A, .int .i64 K]] W fun y w' => y = .returned (.tuple #[.string S2, .int .i64 0]) ∧ Below W.heap.size W w')
    (D4' : ∀ W, Calls Tryd.prog 18 #[.string S2] W fun y w' => y = .returned (.tuple #[.agg #[.int .i64 A, .int .i64 K], .int .i64 0]) ∧ Below W.heap.size W w')
    (D5' : ∀ W, Calls Tryd.prog 14 #[.string s] W fun y w' => y = .returned (.tuple #[.int .i64 c, .int .i64 I]) ∧ Below W.heap.size W w')
    (D6' : ∀ W, Tabs W → Calls Tryd.prog 12 #[.int .i64 c] W fun y w' => y = .returned (.tuple #[.string v, .int .i64 j]) ∧ Below W.heap.size W w')
    (D7' : ∀ W, Calls Tryd.prog 18 #[.string s] W fun y w' => y = .returned (.tuple #[.agg #[.int .i64 R1, .int .i64 R2], .int .i64 k]) ∧ Below W.heap.size W w')
    (D8' : ∀ W, Tabs W → Calls Tryd.prog 16 #[.agg #[.int .i64 R1, .int .i64 R2]] W fun y w' => y = .returned (.tuple #[.string x, .int .i64 l]) ∧ Below W.heap.size W w')
    (D9' : ∀ W, Calls Tryd.prog 20 #[.agg #[.int .i64 A, .int .i64 K]] W fun y w' => y = .returned (.bool true) ∧ Below W.heap.size W w')
    : Calls Tryd.prog 5 #[.int .i64 a, .agg #[.int .i64 A, .int .i64 K], .string s0] w fun y w' => y = .returned (.bool true) ∧ Below w.heap.size w w' := by
  have HS := Lib.hid (fun W h => shown_c W h)
  have HT := Lib.hid hT
  have D0 := Lib.hid D0'
  have D1 := Lib.hid D1'
  have D2 := Lib.hid D2'
  have D3 := Lib.hid D3'
  have D4 := Lib.hid D4'
  have D5 := Lib.hid D5'
  have D6 := Lib.hid D6'
  have D7 := Lib.hid D7'
  have D8 := Lib.hid D8'
  have D9 := Lib.hid D9'
  clear D0' D1' D2' D3' D4' D5' D6' D7' D8' D9' hT
  rcases x1 with rfl | ⟨rfl, rfl, rfl⟩ <;> rcases x3 with ⟨rfl, rfl⟩ | ⟨rfl, rfl, rfl⟩ <;> rcases x4 with rfl | ⟨rfl, rfl, rfl⟩
  all_goals
    go_enter Tryd.func5, Tryd.ntmps5
    go_wp2_with fail
    have x00 : (w.alloc (.cells #[.int .i64 A, .int .i64 K] 23)).cell? ⟨w.heap.size, 0, none⟩ = some (.int .i64 A) := by go_simp
    have x01 : (w.alloc (.cells #[.int .i64 A, .int .i64 K] 23)).cell? ⟨w.heap.size, 1, none⟩ = some (.int .i64 K) := by go_simp
    have B0 : Below w.heap.size w (w.alloc (.cells #[.int .i64 A, .int .i64 K] 23)) := (bal (Below.refl _ _) _)
    generalize (w.alloc (.cells #[.int .i64 A, .int .i64 K] 23)) = U at *
    have KK := Lib.hid (show ∀ W, Below U.heap.size U W → W.cell? ⟨w.heap.size, 0, none⟩ = some (.int .i64 A) ∧ W.cell? ⟨w.heap.size, 1, none⟩ = some (.int .i64 K) from fun W h => ⟨(h.cell (p := ⟨w.heap.size, 0, none⟩) (blt x00)).trans x00, (h.cell (p := ⟨w.heap.size, 1, none⟩) (blt x00)).trans x01⟩)
    refine (HS.out _ (HT.out.on B0)).mono ?_; rintro e w1 ⟨rfl, hb⟩
    have B1 := Lib.hid (btr B0 hb)
    have C1 := Lib.hid (btr (Below.refl _ _) hb)
    clear hb x00 x01
    obtain ⟨c1_00, c1_01⟩ := KK.out w1 C1.out
    clear HS
    go_wp2_with fail
    refine (D0.out _).mono ?_; rintro e _ ⟨rfl, rfl⟩
    go_wp2_with fail
    refine (D1.out _ (HT.out.on B1.out)).mono ?_; rintro e w2 ⟨rfl, hb⟩
    have B2 := Lib.hid (btr B1.out hb)
    have C2 := Lib.hid (btr C1.out hb)
    clear hb c1_00 c1_01
    obtain ⟨c2_00, c2_01⟩ := KK.out w2 C2.out
    go_wp2_with fail
    refine (D2.out _).mono ?_; rintro e w3 ⟨rfl, hb⟩
    have B3 := Lib.hid (btr B2.out hb)
    have C3 := Lib.hid (btr C2.out hb)
    clear hb c2_00 c2_01
    obtain ⟨c3_00, c3_01⟩ := KK.out w3 C3.out
    go_wp2_with fail
    refine (D3.out _ (HT.out.on B3.out)).mono ?_; rintro e w4 ⟨rfl, hb⟩
    have B4 := Lib.hid (btr B3.out hb)
    have C4 := Lib.hid (btr C3.out hb)
    clear hb c3_00 c3_01
    obtain ⟨c4_00, c4_01⟩ := KK.out w4 C4.out
    go_wp2_with fail
    refine (D4.out _).mono ?_; rintro e w5 ⟨rfl, hb⟩
    have B5 := Lib.hid (btr B4.out hb)
    have C5 := Lib.hid (btr C4.out hb)
    clear hb c4_00 c4_01
    obtain ⟨c5_00, c5_01⟩ := KK.out w5 C5.out
    clear D0 D1 D2 D3 D4
    have bB := KK.out (w5.alloc (.cells #[.int .i64 A, .int .i64 K] 23)) (bal C5.out _)
    have b0 := bB.1
    have b1 := bB.2
    clear bB
    go_wp2_with fail
    refine (D5.out _).mono ?_; rintro e w6 ⟨rfl, hb⟩
    have B6 := Lib.hid (btr (bal B5.out _) hb)
    have C6 := Lib.hid (btr (bal C5.out _) hb)
    clear hb c5_00 c5_01 b0 b1
    obtain ⟨c6_00, c6_01⟩ := KK.out w6 C6.out
    go_wp2_with fail
    refine (D6.out _ (HT.out.on B6.out)).mono ?_; rintro e w7 ⟨rfl, hb⟩
    have B7 := Lib.hid (btr B6.out hb)
    have C7 := Lib.hid (btr C6.out hb)
    clear hb c6_00 c6_01
    obtain ⟨c7_00, c7_01⟩ := KK.out w7 C7.out
    go_wp2_with fail
    refine (D7.out _).mono ?_; rintro e w8 ⟨rfl, hb⟩
    have B8 := Lib.hid (btr B7.out hb)
    have C8 := Lib.hid (btr C7.out hb)
    clear hb c7_00 c7_01
    obtain ⟨c8_00, c8_01⟩ := KK.out w8 C8.out
    have bB := KK.out (w8.alloc (.cells #[.int .i64 R1, .int .i64 R2] 23)) (bal C8.out _)
    have b0 := bB.1
    have b1 := bB.2
    clear bB
    go_wp2_with fail
    refine (D8.out _ (HT.out.on (bal B8.out _))).mono ?_; rintro e w9 ⟨rfl, hb⟩
    have B9 := Lib.hid (btr (bal B8.out _) hb)
    have C9 := Lib.hid (btr (bal C8.out _) hb)
    clear hb c8_00 c8_01 b0 b1
    obtain ⟨c9_00, c9_01⟩ := KK.out w9 C9.out
    go_wp2_with fail
    refine (D9.out _).mono ?_; rintro e w10 ⟨rfl, hb⟩
    have B10 := Lib.hid (btr B9.out hb)
    have C10 := Lib.hid (btr C9.out hb)
    clear hb c9_00 c9_01
    obtain ⟨c10_00, c10_01⟩ := KK.out w10 C10.out
    go_wp2
    go_ret
    exact ⟨ret_bool (by first | rfl | (simp <;> omega)), B10.out⟩

theorem str_eq {s : ByteArray} {l : List UInt8} (h : s.data.toList = l) : s = ⟨l.toArray⟩ := by
  subst h
  rfl
theorem backL_c (a A K : Int) (s0 : ByteArray) (w : World) (hT : Tabs w) : Calls Tryd.prog 5 #[.int .i64 a, .agg #[.int .i64 A, .int .i64 K], .string s0] w fun y w' => y = .returned (.bool true) ∧ Below w.heap.size w w' := by
  obtain ⟨s, hs, D0⟩ : ∃ s : ByteArray, s.size ≤ 40 ∧ ∀ W, Calls Tryd.prog 11 #[.string s0] W fun y w' => y = .returned (.string s) ∧ W = w' := ⟨_, cut_size s0, fun W => cut11_c s0 W⟩
  have l1 : (printS a).length ≤ 16 := by
    rw [print_eq]; split
    · exact txt_len
    · simp
  have l2 : (ppS A K).length ≤ 40 := by
    unfold ppS; split
    · rename_i hr
      have hk : 0 ≤ K ∧ K ≤ 32 := by simpa [okK] using (right_parts hr).1
      have g1 : (aT A).length ≤ 16 := txt_len
      have g2 : (Lib.itoa K).length ≤ 3 := by
        have := itoa_len K.toNat (by omega)
        rwa [show ((K.toNat : Nat) : Int) = K by omega] at this
      simp only [List.length_append, List.length_cons]; omega
    · simp
  have D1 := fun W h => print_c a W h
  have D2 := fun W => parse_c ⟨(printS a).toArray⟩ (by show (printS a).toArray.size ≤ 1000; simp; omega) W
  have D3 := fun W h => pp_c A K W h
  have D4 := fun W => parsePrefix_c ⟨(ppS A K).toArray⟩ (by show (ppS A K).toArray.size ≤ 1000; simp; omega) W
  have D5 := fun W => parse_c s (by omega) W
  have D6 := fun W h => print_c (parseN s.data.toList) W h
  have D7 := fun W => parsePrefix_c s (by omega) W
  have D8 := fun W h => pp_c (ppA s.data.toList) (ppK s.data.toList) W h
  have D9 := fun W => right_c A K W
  have x1 : printE a = 60 ∨ (printE a = 0 ∧ parseE (printS a) = 0 ∧ a = parseN (printS a)) := by
    unfold printE
    by_cases ha : isA a = true
    · have e : parseP (printS a) = some a := parse_iff.2 ⟨ha, by rw [print_eq, if_pos ha]⟩
      exact .inr ⟨if_pos ha, by unfold parseE; rw [e]; rfl, by unfold parseN; rw [e]; rfl⟩
    · exact .inl (if_neg ha)
  have x3 : (parseE s.data.toList = 60 ∧ parseN s.data.toList = 0) ∨ (parseE s.data.toList = 0 ∧ printE (parseN s.data.toList) = 0 ∧ s = ⟨(printS (parseN s.data.toList)).toArray⟩) := by
    cases h : parseP s.data.toList with
    | none => exact .inl ⟨by unfold parseE; rw [h]; rfl, by unfold parseN; rw [h]; rfl⟩
    | some c =>
      obtain ⟨h1, h2⟩ := parse_iff.1 h
      have e : parseN s.data.toList = c := by unfold parseN; rw [h]; rfl
      refine .inr ⟨by unfold parseE; rw [h]; rfl, by rw [e]; unfold printE; exact if_pos h1, ?_⟩
      rw [e, print_eq, if_pos h1]
      exact str_eq h2
  have x4 : ppE s.data.toList = 61 ∨ (ppE s.data.toList = 0 ∧ ppF (ppA s.data.toList) (ppK s.data.toList) = 0 ∧ s = ⟨(ppS (ppA s.data.toList) (ppK s.data.toList)).toArray⟩) := by
    cases h : ppR s.data.toList with
    | none => exact .inl (pp_none h).2.2
    | some y =>
      obtain ⟨c, k⟩ := y
      obtain ⟨e1, e2, e3⟩ := pp_some h
      obtain ⟨h1, h2⟩ := ppR_iff.1 h
      refine .inr ⟨e3, by rw [e1, e2]; unfold ppF; exact if_pos h1, ?_⟩
      rw [e1, e2]
      unfold ppS
      rw [if_pos h1]
      exact str_eq h2
  cases hr : rightB A K with
  | false =>
    rw [hr] at D9
    rw [show ppF A K = 61 by unfold ppF; rw [hr]; rfl] at D3
    exact back_no a A K _ _ _ _ _ _ _ _ _ _ _ _ _ _ _ s0 s _ _ x1 x3 x4 w hT D0 D1 D2 D3 D4 D5 D6 D7 D8 D9
  | true =>
    have e : ppR (ppS A K) = some (A, K) := ppR_iff.2 ⟨hr, by unfold ppS; rw [if_pos hr]⟩
    obtain ⟨e1, e2, e3⟩ := pp_some e
    rw [hr] at D9
    rw [show ppF A K = 0 by unfold ppF; rw [hr]; rfl] at D3
    have D4' : ∀ W, Calls Tryd.prog 18 #[.string ⟨(ppS A K).toArray⟩] W fun y w' => y = .returned (.tuple #[.agg #[.int .i64 A, .int .i64 K], .int .i64 0]) ∧ Below W.heap.size W w' := by
      intro W
      have := D4 W
      simp only [e1, e2, e3] at this
      exact this
    exact back_ok a A K _ _ _ _ _ _ _ _ _ _ _ _ s0 s _ _ x1 x3 x4 w hT D0 D1 D2 D3 D4' D5 D6 D7 D8 D9

end Go.Proofs.YtlmgdhhlflmghaaDoor

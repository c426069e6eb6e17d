/- the document's own Pad. -/
import Derived.Test.YtjlpkndbnaknaaaGreatDoorI
import Derived.Test.YtjlpkndbnaknaaaGreatDoorR
namespace Go.Proofs.YtjlpkndbnaknaaaGreatDoor
open Go.RowKit Go.Shelf
attribute [local go_sem] Oper.semAt_some

/-- The length's last k bytes. -/
def lenK (n : Nat) : Nat → List Nat
  | 0 => []
  | k + 1 => (8 * n / 256 ^ k % 256) :: lenK n k
theorem lenK_all (n : Nat) : lenK n 8 = lenL n := rfl
theorem lenK_length (n : Nat) : ∀ k, (lenK n k).length = k
  | 0 => rfl
  | k + 1 => by rw [lenK, List.length_cons, lenK_length n k]
theorem conv_new2 (b : Nat) (h : b < 256) (w : World) : (convert 53 9 (.slice (some ⟨w.heap.size, 0, none⟩) 1 1)).run Tryz.prog (w.alloc (.cells #[.int .u8 (b : Int)] 5)) = .ok (.string (ofL [b])) (w.alloc (.cells #[.int .u8 (b : Int)] 5)) :=
  conv_cells [b] (by simpa using h) w.heap.size 1 _ (fun j n hj => (BysAt.new [b] w).cell hj)
set_option maxRecDepth 100000 in
set_option maxHeartbeats 8000000 in
theorem rPad_c (s : ByteArray) (hs : s.size ≤ 100000) (w : World) : Calls Tryz.prog 40 #[.string s] w fun r w' => r = .returned (.string (ofL (padL (bL s)))) ∧ Below w.heap.size w w' := by
  have m8 : IntKind.i64.wrap (8 * (s.size : Int)) = 8 * (s.size : Int) := IntWalk.i64_in _ (by omega)
  have n1 : ¬ 9223372036854775807 < s.size + 1 := by omega
  obtain ⟨mk, hmk⟩ : ∃ mk : ByteArray, mk = ⟨#[128]⟩ := ⟨_, rfl⟩
  obtain ⟨zr, hzr⟩ : ∃ zr : ByteArray, zr = ⟨#[0]⟩ := ⟨_, rfl⟩
  go_enter Tryz.func40, Tryz.ntmps40
  go_wp2
  clear m8
  have hS0 : s ++ (⟨#[128]⟩ : ByteArray) = ofL (bL s ++ 128 :: List.replicate 0 0) := by rw [ofL_append, ofL_bL]; rfl
  go_loopw [0] (fun o wr => ∃ j : Nat, j ≤ zerosN s.size ∧ (∃ O : ByteArray, o = .string O ∧ Hid (O = ofL (bL s ++ 128 :: List.replicate j 0))) ∧ Hid (Below w.heap.size w wr)) (fun o _ => zerosN s.size + s.size + 1 - (match o with | .string O => O.size | _ => 0))
  case atStart => exact ⟨0, Nat.zero_le _, ⟨_, rfl, Lib.hid hS0⟩, Lib.hid (Below.refl _ _)⟩
  case round =>
    obtain ⟨j, hj, ⟨O, rfl, hO⟩, hbk⟩ := hrel
    have HOz := Lib.hid (show O.size = s.size + 1 + j by
      rw [hO.out, ofL_size, List.length_append, List.length_cons, List.length_replicate, bL_length]; omega)
    have hz : zerosN s.size < 64 := by unfold zerosN; omega
    by_cases hlt : j < zerosN s.size
    · have HLT := Lib.hid hlt
      obtain ⟨t, ht⟩ : ∃ t, O.size % 64 = t := ⟨_, rfl⟩
      have ht3 : ¬ (t : Int) = 56 := by have := HOz.out; unfold zerosN at hlt; omega
      have ht1 : (O.size : Int).tmod 64 = (t : Int) := by rw [Int.tmod_eq_emod_of_nonneg (by omega)]; omega
      have ht2 : (O.size : Int) % 64 = (t : Int) := by omega
      have HO2 := Lib.hid (show O ++ (⟨#[0]⟩ : ByteArray) = ofL (bL s ++ 128 :: List.replicate (j + 1) 0) by
        rw [List.replicate_succ', ← List.cons_append, ← List.append_assoc, ofL_append, ← hO.out]; rfl)
      have n2 : ¬ 9223372036854775807 < O.size + 1 := by have := HOz.out; omega
      have ht4 : wrap64 (t : Int) = (t : Int) := IntWalk.wrap64_in _ (by omega)
      clear ht hlt
      go_wp2
      clear ht4 ht1 ht2
      go_roundw
      case rel => exact ⟨j + 1, by have := HLT.out; omega, ⟨_, rfl, HO2⟩, hbk⟩
      case measure =>
        have h1 := HOz.out
        have h2 := HLT.out
        have h3 : (O ++ (⟨#[0]⟩ : ByteArray)).size = O.size + 1 := ByteArray.size_append
        show zerosN s.size + s.size + 1 - (O ++ (⟨#[0]⟩ : ByteArray)).size < zerosN s.size + s.size + 1 - O.size
        omega
    · have ht : (O.size : Int).tmod 64 = 56 := by have := HOz.out; rw [Int.tmod_eq_emod_of_nonneg (by omega)]; unfold zerosN at hlt hj; omega
      have ht2 : (O.size : Int) % 64 = 56 := by have := HOz.out; unfold zerosN at hlt hj; omega
      obtain rfl : j = zerosN s.size := by omega
      clear hS0
      go_wp2
      go_loopw [3, 4, 5] (fun m t i wr => ∃ k : Nat, k ≤ 8 ∧ i = .int .i64 (k : Int) ∧ m = .int .i64 ((8 * s.size / 256 ^ k : Nat) : Int) ∧ (∃ A : ByteArray, t = .string A ∧ Hid (A = ofL (lenK s.size k))) ∧ Hid (Below w.heap.size w wr)) (fun _ _ i _ => 8 - (intOf i).toNat)
      case atStart => exact ⟨0, by omega, rfl, by rw [Nat.pow_zero, Nat.div_one]; go_num, ⟨_, rfl, Lib.hid rfl⟩, hbk⟩
      case round =>
        obtain ⟨k, hk, rfl, rfl, ⟨A, rfl, hA⟩, hbk⟩ := hrel
        have hAz : A.size = k := by rw [hA.out, ofL_size, lenK_length]
        by_cases hlk : k < 8
        · have hlk' : (k : Int) < 8 := by omega
          have hmb : 8 * s.size / 256 ^ k ≤ 8 * s.size := Nat.div_le_self _ _
          have HM := Lib.hid (show 8 * s.size / 256 ^ (k + 1) = 8 * s.size / 256 ^ k / 256 by rw [Nat.pow_succ, Nat.div_div_eq_div_mul])
          have HA2 := Lib.hid (show ofL [8 * s.size / 256 ^ k % 256] ++ A = ofL (lenK s.size (k + 1)) by rw [hA.out, ← ofL_append]; rfl)
          obtain ⟨M, hMM⟩ : ∃ M, 8 * s.size / 256 ^ k = M := ⟨_, rfl⟩
          rw [hMM] at hmb HM HA2 ⊢
          clear hMM
          obtain ⟨b, hb⟩ : ∃ b, M % 256 = b := ⟨_, rfl⟩
          have hb256 : b < 256 := by omega
          rw [hb] at HA2
          have e1 : (M : Int) % 256 = (b : Int) := by omega
          have e2 : (M : Int) / 256 = ((M / 256 : Nat) : Int) := by omega
          have e4 : (b : Int) % 256 = (b : Int) := by omega
          have hM25 : M / 256 ≤ 1000000 := by omega
          have HCV := fun W => conv_new2 b hb256 W
          have z1 : (ofL [b]).size = 1 := ofL_size _
          obtain ⟨A1, hA1⟩ : ∃ A, ofL [b] = A := ⟨_, rfl⟩
          rw [hA1] at HA2 z1
          have HCV2 := fun W => (conv_new2 b hb256 W)
          rw [hA1] at HCV2
          clear hA1 HCV
          obtain ⟨M2, hM2⟩ : ∃ M2, M / 256 = M2 := ⟨_, rfl⟩
          rw [hM2] at HM e2 hM25
          clear hM2
          have n3 : ¬ 9223372036854775807 < A1.size + A.size := by omega
          clear hb z1
          clear e4
          go_wp2
          go_roundw
          case rel => exact ⟨k + 1, by omega, by go_num, by rw [HM.out], ⟨_, rfl, HA2⟩, Lib.hid (bal hbk.out _)⟩
          case measure => simp [intOf]; omega
        · have hlk' : ¬ (k : Int) < 8 := by omega
          obtain rfl : k = 8 := by omega
          have HF := Lib.hid (show O ++ A = ofL (padL (bL s)) by
            rw [hO.out, hA.out, lenK_all, ← ofL_append]
            unfold padL
            rw [bL_length, List.append_assoc, List.cons_append])
          have n3 : ¬ 9223372036854775807 < O.size + A.size := by have := HOz.out; omega
          go_wp2
          go_ret
          refine ⟨?_, hbk.out⟩
          rw [← HF.out]
          rfl
end Go.Proofs.YtjlpkndbnaknaaaGreatDoor

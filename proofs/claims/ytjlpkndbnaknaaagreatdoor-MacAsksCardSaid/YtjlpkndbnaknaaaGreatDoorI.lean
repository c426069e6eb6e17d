/- ending; Pad. -/
import Derived.Test.YtjlpkndbnaknaaaGreatDoorBy
namespace Go.Proofs.YtjlpkndbnaknaaaGreatDoor
open Go.RowKit Go.Shelf
attribute [local go_sem] Oper.semAt_some

theorem set_tail {α : Type} (A B : List α) (p j : Nat) (x : α) (h : p = A.length + j) : (A ++ B).set p x = A ++ B.set j x := by
  rw [List.set_append_right _ _ (by omega), show p - A.length = j by omega]
/-- What lies in the row at the end. -/
theorem end_row (R : List Nat) (n N : Nat) (h8 : R.length + 9 ≤ N) (hN : N ≤ 128) :
    ((((((((((R ++ List.replicate (128 - R.length) 0).set R.length 128).set (N - 1) (8 * n / 256 ^ 0 % 256)).set (N - 2) (8 * n / 256 ^ 1 % 256)).set (N - 3) (8 * n / 256 ^ 2 % 256)).set (N - 4) (8 * n / 256 ^ 3 % 256)).set (N - 5) (8 * n / 256 ^ 4 % 256)).set (N - 6) (8 * n / 256 ^ 5 % 256)).set (N - 7) (8 * n / 256 ^ 6 % 256)).set (N - 8) (8 * n / 256 ^ 7 % 256)).take N
      = R ++ 128 :: (List.replicate (N - R.length - 9) 0 ++ lenL n) := by
  have e1 : (R ++ List.replicate (128 - R.length) 0).set R.length 128 = (R ++ 128 :: List.replicate (N - R.length - 9) 0) ++ ([0, 0, 0, 0, 0, 0, 0, 0] ++ List.replicate (128 - N) 0) := by
    rw [set_tail R _ R.length 0 128 (by omega), show 128 - R.length = ((N - R.length - 9) + (8 + (128 - N))) + 1 by omega, List.replicate_succ, List.set_cons_zero, List.append_assoc, List.cons_append, ← List.replicate_append_replicate, ← List.replicate_append_replicate]
    rfl
  rw [e1]
  generalize hA : R ++ 128 :: List.replicate (N - R.length - 9) 0 = A
  have hl : A.length = N - 8 := by rw [← hA]; simp only [List.length_append, List.length_cons, List.length_replicate]; omega
  rw [set_tail A _ (N - 1) 7 _ (by omega), set_tail A _ (N - 2) 6 _ (by omega), set_tail A _ (N - 3) 5 _ (by omega), set_tail A _ (N - 4) 4 _ (by omega), set_tail A _ (N - 5) 3 _ (by omega), set_tail A _ (N - 6) 2 _ (by omega), set_tail A _ (N - 7) 1 _ (by omega), set_tail A _ (N - 8) 0 _ (by omega)]
  have e2 : ((((((((([0, 0, 0, 0, 0, 0, 0, 0] ++ List.replicate (128 - N) 0).set 7 (8 * n / 256 ^ 0 % 256)).set 6 (8 * n / 256 ^ 1 % 256)).set 5 (8 * n / 256 ^ 2 % 256)).set 4 (8 * n / 256 ^ 3 % 256)).set 3 (8 * n / 256 ^ 4 % 256)).set 2 (8 * n / 256 ^ 5 % 256)).set 1 (8 * n / 256 ^ 6 % 256)).set 0 (8 * n / 256 ^ 7 % 256)) = lenL n ++ List.replicate (128 - N) 0 := rfl
  rw [e2, List.take_append, ← hA]
  have hlen := lenL_length n
  rw [List.take_of_length_le (by rw [hA, hl]; omega), hA, hl, List.take_append_of_le_length (by omega), List.take_of_length_le (by omega), ← hA, List.append_assoc, List.cons_append]
theorem endL_lt (s : ByteArray) : ∀ c ∈ endL (bL s), c < 256 := by
  intro c hc
  unfold endL at hc
  rcases List.mem_append.1 hc with h | h
  · exact bL_lt s c (List.mem_of_mem_drop h)
  · rcases List.mem_cons.1 h with rfl | h
    · omega
    · rcases List.mem_append.1 h with h | h
      · rw [(List.mem_replicate.1 h).2]; omega
      · unfold lenL at h
        obtain ⟨i, _, rfl⟩ := List.mem_map.1 h
        omega
/-- The row, k bytes of the length written. -/
def endK (L : List Nat) (N n : Nat) : Nat → List Nat
  | 0 => L
  | k + 1 => (endK L N n k).set (N - (k + 1)) (8 * n / 256 ^ k % 256)
theorem endK_length (L : List Nat) (N n : Nat) : ∀ k, (endK L N n k).length = L.length
  | 0 => rfl
  | k + 1 => by rw [endK, List.length_set, endK_length L N n k]
theorem get_D {l : List Nat} {j : Nat} (h : j < l.length) : l[j]? = some (l.getD j 0) := by
  rw [List.getD_eq_getElem?_getD, List.getElem?_eq_getElem h]; rfl
theorem get_take {l : List Nat} {N j n : Nat} (h : (l.take N)[j]? = some n) : l[j]? = some n := by
  rw [List.getElem?_take] at h
  split at h
  · exact h
  · cases h
theorem shrv (n k : Nat) : 8 * (n : Int) / 2 ^ (8 * k) % 256 = ((8 * n / 256 ^ k % 256 : Nat) : Int) := by
  rw [show (256 : Nat) ^ k = 2 ^ (8 * k) by rw [show (256 : Nat) = 2 ^ 8 from rfl, ← Nat.pow_mul]]
  rw [Int.natCast_emod, Int.natCast_ediv, Int.natCast_mul, Int.natCast_pow]
  rfl
theorem end_zero {X : ByteArray} {Z : List Nat} {r : Nat} (hX : X.size = r) (_hl : Z.length = 128) (hZ : Z = List.replicate 128 0) (h : r < 64) : (bL X ++ Z.drop X.size)[r]? = some 0 := by
  rw [List.getElem?_append_right (by rw [bL_length]; omega), bL_length, hX, Nat.sub_self, List.getElem?_drop, hZ, List.getElem?_replicate, if_pos (by omega)]
set_option maxRecDepth 100000 in
set_option maxHeartbeats 8000000 in
theorem ending_c (s : ByteArray) (hs : s.size ≤ 100000) (w : World) : Calls Tryz.prog 63 #[.string s] w fun r w' => r = .returned (.string (ofL (endL (bL s)))) ∧ Below w.heap.size w w' := by
  have HW := Lib.hid (fun W => whole_c s hs W)
  have hwl : wholeN s.size ≤ s.size := wholeN_le _
  obtain ⟨Z, hZ⟩ : ∃ Z, Z = List.replicate 128 0 := ⟨_, rfl⟩
  have HM := fun W => make_by 64 128 (by omega) (by omega) W
  rw [show ((64 : Nat) : Int) = 64 from rfl, show ((128 : Nat) : Int) = 128 from rfl, ← hZ] at HM
  have hwm : (s.extract (wholeN s.size) s.size).size = s.size % 64 := by rw [ByteArray.size_extract]; unfold wholeN; omega
  have hR : bL (s.extract (wholeN s.size) s.size) = (bL s).drop (wholeN s.size) := by rw [bL_extract, ← bL_length, List.take_length]
  obtain ⟨X, hX⟩ : ∃ X, s.extract (wholeN s.size) s.size = X := ⟨_, rfl⟩
  rw [hX] at hwm hR
  have HR := Lib.hid hR
  clear hR
  obtain ⟨r, hr⟩ : ∃ r, s.size % 64 = r := ⟨_, rfl⟩
  rw [hr] at hwm
  have hr64 : r < 64 := by omega
  have HZ := Lib.hid hZ
  have hZl : Z.length = 128 := by rw [hZ, List.length_replicate]
  clear hZ
  have hr9 : IntKind.i64.wrap ((r : Int) + 9) = (r : Int) + 9 := IntWalk.i64_in _ (by omega)
  have hi64 : (r : Int) < 64 := by omega
  have hi128 : (r : Int) < 128 := by omega
  have hn128 : r < 128 := by omega
  have hB8 : IntKind.u64.wrap ((s.size : Int) * 8) = 8 * (s.size : Int) := by rw [IntKind.wrap_u64]; omega
  go_enter Tryz.func63, Tryz.ntmps63
  by_cases h64 : 64 < r + 9
  · have h64' : (64 : Int) < (r : Int) + 9 := by omega
    go_wp2_with (first | (with_reducible refine (HW.out _).mono ?_; rintro e w1 ⟨rfl, hb1⟩) | (refine wpList_copy_text rfl (.tmp 18) (.tmp 19) rfl w1.heap.size 128 128 X rfl rfl Z (BysAt.new Z w1) (by omega) (by omega) w.heap.size w (bal hb1 _) hb1.size ?_; intro w2 hA hb2; have hc0 := hA.cell (j := r) (n := 0) (end_zero hwm hZl HZ.out hr64); have hf0 := hA.frozen r))
    have hA2 := hA.set r 128
    have hb3 : Below w.heap.size w (w2.setCell ⟨w1.heap.size, r, none⟩ (.int .u8 128)) := hb2.setCell (by have := hb1.size; exact this) _
    have hlen : ((bL X ++ Z.drop X.size).set r 128).length = 128 := by rw [List.length_set, List.length_append, List.length_drop, bL_length, hZl]; omega
    obtain ⟨L0, hL0⟩ : ∃ L0, L0 = (bL X ++ Z.drop X.size).set r 128 := ⟨_, rfl⟩
    rw [← hL0] at hA2 hlen
    have HL0 := Lib.hid hL0
    clear hL0 hc0 hf0 hA hb2
    rw [show (Value.int IntKind.u8 ((128 : Nat) : Int)) = .int .u8 128 from rfl] at hA2
    generalize w2.setCell ⟨w1.heap.size, r, none⟩ (.int .u8 128) = w3 at *
    go_loopw [29] (fun i wr => ∃ k : Nat, k ≤ 8 ∧ i = .int .i64 (k : Int) ∧ BysAt w1.heap.size (endK L0 128 s.size k) wr ∧ Below w.heap.size w wr) (fun i _ => 8 - (intOf i).toNat)
    case atStart => exact ⟨0, by omega, rfl, hA2, hb3⟩
    case round =>
      obtain ⟨k, hk, rfl, hK, hbk⟩ := hrel
      clear hA2 hb3
      by_cases hlt : k < 8
      · have hlt' : (k : Int) < 8 := by omega
        obtain ⟨j, hj, hjn⟩ : ∃ j : Nat, (127 : Int) - (k : Int) = (j : Int) ∧ 128 - (k + 1) = j := ⟨128 - (k + 1), by omega, rfl⟩
        have hjw : IntKind.i64.wrap (j : Int) = (j : Int) := IntWalk.i64_in _ (by omega)
        have hj1 : (j : Int) < 128 := by omega
        have hj2 : j < 128 := by omega
        have h8k : IntKind.i64.wrap (8 * (k : Int)) = 8 * (k : Int) := IntWalk.i64_in _ (by omega)
        obtain ⟨M, hM⟩ : ∃ M, M = 8 * s.size / 256 ^ k := ⟨_, rfl⟩
        have HV := Lib.hid (shrv s.size k)
        rw [← hM] at HV
        have hck := hK.cell (j := j) (n := (endK L0 128 s.size k).getD j 0) (get_D (by rw [endK_length, hlen]; omega))
        have hfk := hK.frozen j
        have HK := Lib.hid (hK.set j (M % 256))
        have hE : endK L0 128 s.size (k + 1) = (endK L0 128 s.size k).set j (M % 256) := by rw [endK, hjn, hM]
        rw [← hE] at HK
        have HBk := Lib.hid hbk
        have HSZ := Lib.hid hb1.size
        clear hE hM hK hbk
        generalize (endK L0 128 s.size k).getD j 0 = v0 at *
        generalize M % 256 = M8 at *
        go_wp2
        rw [HV.out]
        go_roundw
        case rel => exact ⟨k + 1, by omega, by go_num, HK.out, HBk.out.setCell HSZ.out _⟩
        case measure => simp [intOf]; omega
      · obtain rfl : k = 8 := by omega
        have hE := end_row (bL X) s.size 128 (by rw [bL_length]; omega) (by omega)
        rw [bL_length, hwm] at hE
        have hL1 : L0 = (bL X ++ List.replicate (128 - r) 0).set r 128 := by rw [HL0.out, HZ.out, hwm, List.drop_replicate]
        rw [← hL1] at hE
        have hE2 : (endK L0 128 s.size 8).take 128 = endL (bL s) := by
          refine Eq.trans hE ?_
          unfold endL
          rw [HR.out, bL_length, show zerosN s.size = 128 - r - 9 by unfold zerosN; omega]
        have hlt2 : ∀ c ∈ (endK L0 128 s.size 8).take 128, c < 256 := by rw [hE2]; exact endL_lt s
        have hlen2 : ((endK L0 128 s.size 8).take 128).length = 128 := by rw [List.length_take, endK_length, hlen]; rfl
        have hcv := conv_cells _ hlt2 w1.heap.size 128 wr (fun j n h => hK.cell (get_take h))
        rw [hlen2, hE2] at hcv
        clear hE hE2 hL1 hlt2 hlen2
        go_wp2
        go_ret
        exact ⟨rfl, hbk⟩
  · have h64' : ¬ (64 : Int) < (r : Int) + 9 := by omega
    go_wp2_with (first | (with_reducible refine (HW.out _).mono ?_; rintro e w1 ⟨rfl, hb1⟩) | (refine wpList_copy_text rfl (.tmp 18) (.tmp 19) rfl w1.heap.size 64 128 X rfl rfl Z (BysAt.new Z w1) (by omega) (by omega) w.heap.size w (bal hb1 _) hb1.size ?_; intro w2 hA hb2; have hc0 := hA.cell (j := r) (n := 0) (end_zero hwm hZl HZ.out hr64); have hf0 := hA.frozen r))
    have hA2 := hA.set r 128
    have hb3 : Below w.heap.size w (w2.setCell ⟨w1.heap.size, r, none⟩ (.int .u8 128)) := hb2.setCell (by have := hb1.size; exact this) _
    have hlen : ((bL X ++ Z.drop X.size).set r 128).length = 128 := by rw [List.length_set, List.length_append, List.length_drop, bL_length, hZl]; omega
    obtain ⟨L0, hL0⟩ : ∃ L0, L0 = (bL X ++ Z.drop X.size).set r 128 := ⟨_, rfl⟩
    rw [← hL0] at hA2 hlen
    have HL0 := Lib.hid hL0
    clear hL0 hc0 hf0 hA hb2
    rw [show (Value.int IntKind.u8 ((128 : Nat) : Int)) = .int .u8 128 from rfl] at hA2
    generalize w2.setCell ⟨w1.heap.size, r, none⟩ (.int .u8 128) = w3 at *
    go_loopw [29] (fun i wr => ∃ k : Nat, k ≤ 8 ∧ i = .int .i64 (k : Int) ∧ BysAt w1.heap.size (endK L0 64 s.size k) wr ∧ Below w.heap.size w wr) (fun i _ => 8 - (intOf i).toNat)
    case atStart => exact ⟨0, by omega, rfl, hA2, hb3⟩
    case round =>
      obtain ⟨k, hk, rfl, hK, hbk⟩ := hrel
      clear hA2 hb3
      by_cases hlt : k < 8
      · have hlt' : (k : Int) < 8 := by omega
        obtain ⟨j, hj, hjn⟩ : ∃ j : Nat, (63 : Int) - (k : Int) = (j : Int) ∧ 64 - (k + 1) = j := ⟨64 - (k + 1), by omega, rfl⟩
        have hjw : IntKind.i64.wrap (j : Int) = (j : Int) := IntWalk.i64_in _ (by omega)
        have hj1 : (j : Int) < 64 := by omega
        have hj2 : j < 64 := by omega
        have h8k : IntKind.i64.wrap (8 * (k : Int)) = 8 * (k : Int) := IntWalk.i64_in _ (by omega)
        obtain ⟨M, hM⟩ : ∃ M, M = 8 * s.size / 256 ^ k := ⟨_, rfl⟩
        have HV := Lib.hid (shrv s.size k)
        rw [← hM] at HV
        have hck := hK.cell (j := j) (n := (endK L0 64 s.size k).getD j 0) (get_D (by rw [endK_length, hlen]; omega))
        have hfk := hK.frozen j
        have HK := Lib.hid (hK.set j (M % 256))
        have hE : endK L0 64 s.size (k + 1) = (endK L0 64 s.size k).set j (M % 256) := by rw [endK, hjn, hM]
        rw [← hE] at HK
        have HBk := Lib.hid hbk
        have HSZ := Lib.hid hb1.size
        clear hE hM hK hbk
        generalize (endK L0 64 s.size k).getD j 0 = v0 at *
        generalize M % 256 = M8 at *
        go_wp2
        rw [HV.out]
        go_roundw
        case rel => exact ⟨k + 1, by omega, by go_num, HK.out, HBk.out.setCell HSZ.out _⟩
        case measure => simp [intOf]; omega
      · obtain rfl : k = 8 := by omega
        have hE := end_row (bL X) s.size 64 (by rw [bL_length]; omega) (by omega)
        rw [bL_length, hwm] at hE
        have hL1 : L0 = (bL X ++ List.replicate (128 - r) 0).set r 128 := by rw [HL0.out, HZ.out, hwm, List.drop_replicate]
        rw [← hL1] at hE
        have hE2 : (endK L0 64 s.size 8).take 64 = endL (bL s) := by
          refine Eq.trans hE ?_
          unfold endL
          rw [HR.out, bL_length, show zerosN s.size = 64 - r - 9 by unfold zerosN; omega]
        have hlt2 : ∀ c ∈ (endK L0 64 s.size 8).take 64, c < 256 := by rw [hE2]; exact endL_lt s
        have hlen2 : ((endK L0 64 s.size 8).take 64).length = 64 := by rw [List.length_take, endK_length, hlen]; rfl
        have hcv := conv_cells _ hlt2 w1.heap.size 128 wr (fun j n h => hK.cell (get_take h))
        rw [hlen2, hE2] at hcv
        clear hE hE2 hL1 hlt2 hlen2
        go_wp2
        go_ret
        exact ⟨rfl, hbk⟩
end Go.Proofs.YtjlpkndbnaknaaaGreatDoor

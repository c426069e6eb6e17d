/- The document's own Take in one. -/
import Derived.Test.YtdcnpcdohgecbaaDoorPI
import Derived.Test.YtdcnpcdohgecbaaDoorPF
namespace Go.Proofs.YtdcnpcdohgecbaaDoor
open Go.RowKit Go.Shelf
attribute [local go_sem] Oper.semAt_some

theorem empty_of {t : ByteArray} (h : t.size = 0) : t = ⟨#[]⟩ := by
  obtain ⟨⟨l⟩⟩ := t
  cases l with
  | nil => rfl
  | cons x r => cases h
theorem not_empty {t : ByteArray} (h : ¬ t.size = 0) : t.toList.isEmpty = false := by
  rw [ByteArray.toList_eq]
  obtain ⟨⟨l⟩⟩ := t
  cases l with
  | nil => exact absurd rfl h
  | cons x r => rfl
theorem rTake_c (s : ByteArray) (a : Int) (hs : (s.size : Int) ≤ 4611686018427387904) (w : World) : Calls Tryd.prog 16 #[.string s, .int .i64 a] w fun x w' => x = .returned (.tuple #[.agg #[.int .i64 (tkK s a), .int .i64 (tkS s a), .string (tkD s a)], .int .i64 (tkN s a), .int .i64 (tkE s a)]) ∧ Below w.heap.size w w' := by
  by_cases h : a < 0
  · have he : tkE s a = 2 := by unfold tkE okT; rw [if_pos (by simp; omega)]
    obtain ⟨q1, q2, q3, q4, q5⟩ := tk_err he (by decide)
    rw [q1, q2, q3, q4, q5]
    exact rTake_2a s a h w
  by_cases h2 : (s.size : Int) < a
  · have he : tkE s a = 2 := by unfold tkE okT; rw [if_pos (by simp; omega)]
    obtain ⟨q1, q2, q3, q4, q5⟩ := tk_err he (by decide)
    rw [q1, q2, q3, q4, q5]
    exact rTake_2b s a h h2 w
  obtain ⟨n, rfl⟩ : ∃ n : Nat, a = n := ⟨a.toNat, by omega⟩
  have hn : n ≤ s.size := by omega
  have he := tkE_hd s n hn
  have hsl : ∀ W, (Instr.slice 9 (.string s) (some (.int .i64 (n : Int))) none none).run Tryd.prog W = .ok (.string (s.extract n s.size)) W := fun W => by
    rw [run_slice_string_from_if (P := Tryd.prog) (w := W) (h := by kernel_rfl), if_pos ⟨by omega, by omega⟩]
    rfl
  have hl : (s.extract n s.size).data.toList = List.drop n s.data.toList := by
    rw [sl_of hn (Nat.le_refl _)]
    exact List.take_of_length_le (by simp)
  have htk := fun hz : tkE s (n : Int) = 0 => tk_hd hn hz
  rw [← hl] at he htk
  have hsz : (s.extract n s.size).size = s.size - n := by rw [ByteArray.size_extract]; omega
  generalize s.extract n s.size = t at *
  have hlen : t.data.toList.length = t.size := by simp
  unfold hdE at he
  rw [hlen] at he
  by_cases h0 : t.size = 0
  · rw [if_pos h0] at he
    obtain ⟨q1, q2, q3, q4, q5⟩ := tk_err he (by decide)
    rw [q1, q2, q3, q4, q5]
    rw [empty_of h0] at hsl
    exact rTake_30a s n h h2 hsl w
  rw [if_neg h0] at he
  have ht := not_empty h0
  have hi : 0 < t.size := by omega
  have hb : hdK t.data.toList = ((t[0]'hi).toNat : Int) := by
    unfold hdK
    have h9 : t.data.toList[0]? = some (t[0]'hi) := by
      rw [List.getElem?_eq_getElem (by simp; omega)]; rfl
    rw [List.getD_eq_getElem?_getD, h9]
    rfl
  have hix : ∀ W, (Instr.index 9 (.string t) (.int .i64 0)).run Tryd.prog W = .ok (.int .u8 ((t[0]'hi).toNat : Int)) W := fun W => by
    rw [run_index_string (P := Tryd.prog) W 9 t .i64 0 (by kernel_rfl), dif_pos ⟨by omega, by omega⟩]
    rfl
  have hby := (t[0]'hi).toNat_lt
  rw [hb] at he htk
  generalize (t[0]'hi).toNat = b at *
  by_cases hb1 : (b : Int) < 1
  · rw [if_pos (by omega)] at he
    obtain ⟨q1, q2, q3, q4, q5⟩ := tk_err he (by decide)
    rw [q1, q2, q3, q4, q5]
    exact rTake_31a s t n h h2 hsl ht b hix hb1 w
  by_cases hb2 : 8 < (b : Int)
  · rw [if_pos (by omega)] at he
    obtain ⟨q1, q2, q3, q4, q5⟩ := tk_err he (by decide)
    rw [q1, q2, q3, q4, q5]
    exact rTake_31b s t n h h2 hsl ht b hix hb1 hb2 w
  rw [if_neg (by omega)] at he
  by_cases hl5 : t.size < 5
  · rw [if_pos hl5] at he
    obtain ⟨q1, q2, q3, q4, q5⟩ := tk_err he (by decide)
    rw [q1, q2, q3, q4, q5]
    exact rTake_30b s t n h h2 hsl ht b hix hb1 hb2 (by omega) w
  rw [if_neg hl5] at he
  have hs2 : ∀ W, (Instr.slice 9 (.string t) (some (.int .i64 3)) (some (.int .i64 5)) none).run Tryd.prog W = .ok (.string (t.extract 3 5)) W := fun W => by
    rw [run_slice_string_if (P := Tryd.prog) (w := W) (h := by kernel_rfl), if_pos ⟨by omega, by omega⟩, if_pos ⟨by omega, by omega⟩]
    rfl
  have hs1 : ∀ W, (Instr.slice 9 (.string t) (some (.int .i64 1)) (some (.int .i64 3)) none).run Tryd.prog W = .ok (.string (t.extract 1 3)) W := fun W => by
    rw [run_slice_string_if (P := Tryd.prog) (w := W) (h := by kernel_rfl), if_pos ⟨by omega, by omega⟩, if_pos ⟨by omega, by omega⟩]
    rfl
  have N2 := Lib.hid (fun W => rNumber_c (t.extract 3 5) W)
  have N1 := Lib.hid (fun W => rNumber_c (t.extract 1 3) W)
  have a2 : numB (t.extract 3 5).data.toList = hdL t.data.toList := by rw [sl_of (by omega) (by omega)]; rfl
  have a1 : numB (t.extract 1 3).data.toList = hdS t.data.toList := by rw [sl_of (by omega) (by omega)]; rfl
  rw [a2] at N2
  rw [a1] at N1
  have hLr : 0 ≤ hdL t.data.toList ∧ hdL t.data.toList ≤ 65535 := numB_range _
  have hD : hdD t.data.toList = List.take (hdL t.data.toList).toNat (List.drop 5 t.data.toList) := rfl
  generalize hdL t.data.toList = L at *
  by_cases h512 : 512 < L
  · rw [if_pos (by omega)] at he
    obtain ⟨q1, q2, q3, q4, q5⟩ := tk_err he (by decide)
    rw [q1, q2, q3, q4, q5]
    exact rTake_32 s t n h h2 hsl ht b hix hb1 hb2 (by omega) _ hs2 L N2 h512 w
  rw [if_neg (by omega)] at he
  have hw5 : IntKind.i64.wrap (5 + L) = 5 + L := IntWalk.i64_in _ (by omega)
  by_cases hlt : (t.size : Int) < 5 + L
  · rw [if_pos hlt] at he
    obtain ⟨q1, q2, q3, q4, q5⟩ := tk_err he (by decide)
    rw [q1, q2, q3, q4, q5]
    exact rTake_30c s t n h h2 hsl ht b hix hb1 hb2 (by omega) _ hs2 L N2 h512 hw5 hlt w
  rw [if_neg hlt] at he
  have hs3 : ∀ W, (Instr.slice 9 (.string t) (some (.int .i64 5)) (some (.int .i64 (5 + L))) none).run Tryd.prog W = .ok (.string (t.extract 5 (5 + L).toNat)) W := fun W => by
    rw [run_slice_string_if (P := Tryd.prog) (w := W) (h := by kernel_rfl), if_pos ⟨by omega, by omega⟩, if_pos ⟨by omega, by omega⟩]
    rfl
  have hDl : (t.extract 5 (5 + L).toNat).data.toList = hdD t.data.toList := by
    rw [sl_of (by omega) (by omega), hD]
    congr 1
    omega
  have hDs : (t.extract 5 (5 + L).toNat).size = L.toNat := by rw [ByteArray.size_extract]; omega
  have R1 := Lib.hid (fun W => rRight_c (b : Int) (hdS t.data.toList) (t.extract 5 (5 + L).toNat) W)
  rw [hDs] at R1
  have hwb : IntKind.i64.wrap (b : Int) = (b : Int) := IntWalk.i64_in _ (by omega)
  cases hr : rightW (b : Int) (hdS t.data.toList) L.toNat with
  | false =>
    rw [if_pos hr] at he
    rw [hr] at R1
    obtain ⟨q1, q2, q3, q4, q5⟩ := tk_err he (by decide)
    rw [q1, q2, q3, q4, q5]
    exact rTake_33 s t n h h2 hsl ht b hix hb1 hb2 (by omega) _ hs2 L N2 h512 hw5 hlt _ _ hs1 hs3 _ N1 hwb R1 w
  | true =>
    rw [if_neg (by rw [hr]; simp)] at he
    rw [hr] at R1
    obtain ⟨k1, k2, k3, k4⟩ := htk he
    rw [k1, k2, k4, he, bytes_eq k3, ← bytes_eq hDl]
    exact rTake_ok s t n h h2 hsl ht b hix hb1 hb2 (by omega) _ hs2 L N2 h512 hw5 hlt _ _ hs1 hs3 _ N1 hwb R1 (IntWalk.i64_in _ (by omega)) (IntWalk.i64_in _ (by omega)) w
end Go.Proofs.YtdcnpcdohgecbaaDoor

/- New; front: its copies. -/
import Derived.Test.YtoddlldjhaacnaaD
import Derived.Laws.MakeOwn
import Derived.Laws.CopyOwn
import Derived.StillTailTactics
namespace Go.Proofs.Ytoddlldjhaacnaa
open Go.RowKit

theorem made_cells (n j : Nat) (h : j < n) : (madeCells #[.int .u8 0] n)[j]? = some (.int .u8 0) := by
  simp [madeCells, h, Nat.mod_one]
theorem made_eq (n : Nat) : madeCells #[.int .u8 0] n = ((List.replicate n (Value.int .u8 0))).toArray := by
  apply Array.ext_getElem?
  intro j
  by_cases h : j < n
  · rw [made_cells n j h]; simp [h]
  · simp [madeCells, h]
theorem make_bytes (n : Nat) (h : n ≤ 100000) (W : World) : (Instr.makeSlice 45 (.int .i64 n) (.int .i64 n)).run Try.prog W = .ok (.slice (some ⟨W.heap.size, 0, none⟩) n n) (W.alloc (.cells (madeCells #[.int .u8 0] n) 5)) := by
  obtain ⟨i, hi, hz, hb, hs⟩ : ∃ i, Try.prog.info? 5 = some i ∧ i.zero = some (.int .u8 0) ∧ i.bytes = 1 ∧ i.size = 1 := by
    have z : (Try.prog.info? 5).bind (·.zero) = some (.int .u8 0) := by kernel_rfl
    have b : (Try.prog.info? 5).map (·.bytes) = some 1 := by kernel_rfl
    have s : (Try.prog.info? 5).map (·.size) = some 1 := by kernel_rfl
    cases hi : Try.prog.info? 5 with
    | none => rw [hi] at z; cases z
    | some i => rw [hi] at z b s; exact ⟨i, rfl, z, Option.some.inj b, Option.some.inj s⟩
  have := run_make (P := Try.prog) W 45 5 i (.int .u8 0) (by kernel_rfl) hi hz .i64 .i64 (n : Int) (n : Int) (by omega) (by omega) (by rw [hb]; omega) (by omega)
  simp only [Int.toNat_natCast, hs, Nat.mul_one] at this
  exact this

theorem new_world (w : World) (n : Nat) (h : 1 ≤ n) (h2 : n ≤ 4096) :
    Qs ((w.alloc (.cells (madeCells #[.int .u8 0] n) 5)).alloc (.cells #[.slice (some ⟨w.heap.size, 0, none⟩) n n, .int .i64 0, .int .i64 0] 50)) (w.heap.size + 1) w.heap.size n [] := by
  refine ⟨0, List.replicate n 0, ⟨?_, ?_, ?_, ?_, ?_, by simp, ?_, ?_, by omega, by omega, by simp, h2⟩, by simp [ringOf]⟩
  · go_simp
  · go_simp
  · go_simp
  · go_simp
  · go_simp
  · intro j hj
    refine (keep_alloc _ ((World.cell?_alloc_new w _ 5 j).trans (made_cells n j hj))).trans ?_
    simp [List.getD_eq_getElem?_getD, hj]
  · intro j hj
    go_simp

set_option maxRecDepth 100000 in
set_option maxHeartbeats 1000000 in
theorem new_ok (n : Nat) (h : 1 ≤ n) (h2 : n ≤ 4096) (w : World) :
    Calls Try.prog 10 #[.int .i64 n] w (Fresh w n) := by
  have hmk := make_bytes n (by omega)
  have i1 : ¬ (n : Int) < 1 := by omega
  have i2 : (n : Int) ≤ 4096 := by omega
  go_enter Try.func10, Try.ntmps10
  go_wp2
  go_ret2
  refine ⟨w.heap.size + 1, w.heap.size, rfl, new_world w n h h2, ?_, by omega, Nat.le_refl _⟩
  exact ((Below.refl _ w).alloc (Nat.le_refl _) _).alloc (by simp) _

/-- The cells that front copies first, and then. -/
def piece (cs : List Int) (o k : Nat) : List Value := (List.range k).map fun j => .int .u8 (cs.getD (o + j) 0)
theorem piece_length (cs : List Int) (o k : Nat) : (piece cs o k).length = k := by simp [piece]
theorem piece_get {cs : List Int} {o k j : Nat} {v : Value} (h : (piece cs o k)[j]? = some v) : j < k ∧ v = .int .u8 (cs.getD (o + j) 0) := by
  have hj : j < k := by
    have := (List.getElem?_eq_some_iff.1 h).1
    simpa [piece] using this
  refine ⟨hj, ?_⟩
  simp [piece, hj] at h
  exact h.symm
theorem piece_one (cs : List Int) (o k : Nat) : ∀ v ∈ piece cs o k, v.oneCell' = true := by
  intro v hv
  simp only [piece, List.mem_map] at hv
  obtain ⟨_, _, rfl⟩ := hv
  rfl
theorem pieces (cs : List Int) (first m k : Nat) (hf : first < cs.length) (hm : m ≤ cs.length) (hk : k = min m (cs.length - first)) (Z : List Value) (hZ : Z.length = m) :
    splice (splice Z 0 (piece cs first k)) k (piece cs 0 (m - k)) = (ringOf cs first m).map (Value.int .u8) := by
  have hkm : k ≤ m := by omega
  have e1 : splice Z 0 (piece cs first k) = piece cs first k ++ Z.drop k := by simp [splice, piece_length]
  have e2 : splice (splice Z 0 (piece cs first k)) k (piece cs 0 (m - k)) = piece cs first k ++ piece cs 0 (m - k) := by
    rw [e1]
    simp only [splice, piece_length]
    rw [List.take_left' (piece_length _ _ _), List.drop_of_length_le (by simp [piece_length]; omega), List.append_nil]
  rw [e2]
  apply List.ext_getElem
  · simp [piece_length, ringOf]; omega
  · intro i h1 h2
    have hi : i < m := by simp [ringOf] at h2; exact h2
    by_cases h : i < k
    · rw [List.getElem_append_left (by simpa [piece_length] using h)]
      simp [piece, ringOf, Nat.mod_eq_of_lt (show first + i < cs.length by omega)]
    · rw [List.getElem_append_right (by simpa [piece_length] using h)]
      have e : (first + i) % cs.length = i - k := by
        have : first + i = (i - k) + cs.length := by omega
        rw [this, Nat.add_mod_right, Nat.mod_eq_of_lt (by omega)]
      simp [piece, ringOf, e]

end Go.Proofs.Ytoddlldjhaacnaa

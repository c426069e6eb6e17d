/- A taker's checks: isShort, isKind. -/
import Derived.Test.YtdcnpcdohgecbaaDoorO
namespace Go.Proofs.YtdcnpcdohgecbaaDoor
open Go.RowKit Go.Shelf
attribute [local go_sem] Oper.semAt_some

set_option maxRecDepth 100000 in
set_option maxHeartbeats 4000000 in
theorem isShort_c (s : ByteArray) (n : Nat) (hk : n + 5 ≤ s.size) (hs : (s.size : Int) ≤ 4611686018427387904) (w : World) : Calls Tryd.prog 39 #[.agg #[.string s, .int .i64 (n : Int)]] w fun x w' => x = .returned (errV (decide (numAt s (n + 3) ≤ 512)) 32) ∧ Below w.heap.size w w' := by
  have HL := Lib.hid (fun W => length_c s n hk (by omega) W)
  have HU := Lib.hid (fun W b c => unless_c W b c)
  generalize numAt s (n + 3) = L at *
  clear hk hs
  go_enter Tryd.func39, Tryd.ntmps39
  go_wp2_with (first | (go_at_call 56; refine (HL.out _).mono ?_; rintro e w1 ⟨rfl, hb⟩) | (go_at_call 54; refine (HU.out _ _ _).mono ?_; rintro e w2 ⟨rfl, rfl⟩))
  go_ret
  exact ⟨rfl, btr (below_alloc _ _) hb⟩
set_option maxRecDepth 100000 in
set_option maxHeartbeats 4000000 in
theorem isKind_c (s : ByteArray) (n : Nat) (hn : n < s.size) (w : World) : Calls Tryd.prog 37 #[.agg #[.string s, .int .i64 (n : Int)]] w fun x w' => x = .returned (errV (decide (1 ≤ ((s.data.toList.getD n 0).toNat : Int)) && decide (((s.data.toList.getD n 0).toNat : Int) ≤ 8)) 31) ∧ Below w.heap.size w w' := by
  have HL := Lib.hid (fun W => kind_c s n hn W)
  have HU := Lib.hid (fun W b c => unless_c W b c)
  generalize ((s.data.toList.getD n 0).toNat : Int) = L at *
  clear hn
  by_cases h0 : 1 ≤ L
  · rw [show (decide (1 ≤ L) && decide (L ≤ 8)) = decide (L ≤ 8) by simp [h0]]
    · go_enter Tryd.func37, Tryd.ntmps37
      go_wp2_with (first | (go_at_call 55; refine (HL.out _).mono ?_; rintro e w1 ⟨rfl, hb⟩; have k0 := (hb.cell (p := ⟨w.heap.size, 0, none⟩) (by simp)).trans (show _ = some (.string s) by go_simp); have k1 := (hb.cell (p := ⟨w.heap.size, 1, none⟩) (by simp)).trans (show _ = some (.int .i64 (n : Int)) by go_simp); have hB := btr (below_alloc _ _) hb; clear hb) | (go_at_call 55; refine (HL.out _).mono ?_; rintro e w2 ⟨rfl, hb2⟩; have hB2 := btr hB hb2) | (go_at_call 54; refine (HU.out _ _ _).mono ?_; rintro e w3 ⟨rfl, rfl⟩))
      go_ret
      exact ⟨rfl, by first | assumption | exact hB2⟩
  · rw [show (decide (1 ≤ L) && decide (L ≤ 8)) = false by simp [h0]]
    go_enter Tryd.func37, Tryd.ntmps37
    go_wp2_with (first | (go_at_call 55; refine (HL.out _).mono ?_; rintro e w1 ⟨rfl, hb⟩; have hB := btr (below_alloc _ _) hb; clear hb) | (go_at_call 54; refine (HU.out _ _ _).mono ?_; rintro e w3 ⟨rfl, rfl⟩))
    go_ret
    exact ⟨rfl, hB⟩
end Go.Proofs.YtdcnpcdohgecbaaDoor

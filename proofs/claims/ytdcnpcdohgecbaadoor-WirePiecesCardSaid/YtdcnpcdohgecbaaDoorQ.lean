/- A taker's check isWhole. -/
import Derived.Test.YtdcnpcdohgecbaaDoorP
namespace Go.Proofs.YtdcnpcdohgecbaaDoor
open Go.RowKit Go.Shelf
attribute [local go_sem] Oper.semAt_some

set_option maxRecDepth 100000 in
set_option maxHeartbeats 4000000 in
theorem isWhole_c (s : ByteArray) (n : Nat) (hk : n + 5 ≤ s.size) (hs : (s.size : Int) ≤ 4611686018427387904) (w : World) : Calls Tryd.prog 40 #[.agg #[.string s, .int .i64 (n : Int)]] w fun x w' => x = .returned (errV (decide ((n : Int) + 5 + numAt s (n + 3) ≤ s.size)) 30) ∧ Below w.heap.size w w' := by
  have HL := Lib.hid (fun W => end_c s n hk hs W)
  have HU := Lib.hid (fun W b c => unless_c W b c)
  generalize ((n : Int) + 5 + numAt s (n + 3)) = L at *
  clear hk hs
  go_enter Tryd.func40, Tryd.ntmps40
  go_wp2_with fail
  have k0 : (w.alloc (.cells #[.string s, .int .i64 (n : Int)] 70)).cell? ⟨w.heap.size, 0, none⟩ = some (.string s) := by go_simp
  have k1 : (w.alloc (.cells #[.string s, .int .i64 (n : Int)] 70)).cell? ⟨w.heap.size, 1, none⟩ = some (.int .i64 (n : Int)) := by go_simp
  have HA := Lib.hid (below_alloc w (.cells #[.string s, .int .i64 (n : Int)] 70))
  generalize (w.alloc (.cells #[.string s, .int .i64 (n : Int)] 70)) = U at *
  have u0 : Below U.heap.size U U := Below.refl _ U
  have MK := Lib.hid (show ∀ w', Below U.heap.size U w' → w'.cell? ⟨w.heap.size, 0, none⟩ = some (.string s) ∧ w'.cell? ⟨w.heap.size, 1, none⟩ = some (.int .i64 (n : Int)) ∧ Below U.heap.size U w' from
    (fun w' h => ⟨(h.cell (p := ⟨w.heap.size, 0, none⟩) (blt k0)).trans k0, (h.cell (p := ⟨w.heap.size, 1, none⟩) (blt k1)).trans k1, h⟩))
  go_region_held3 (fun w' => w'.cell? ⟨w.heap.size, 0, none⟩ = some (.string s) ∧ w'.cell? ⟨w.heap.size, 1, none⟩ = some (.int .i64 (n : Int)) ∧ Below U.heap.size U w')
    (first | with_reducible assumption | exact MK.out _ (by with_reducible assumption) | exact MK.out _ (below_drew (by with_reducible assumption)))
    ((first | (go_at_call 43; go_split_ands; with_reducible refine (HL.out _).mono ?_; rintro e wn ⟨rfl, pB⟩; have sB := btr (by with_reducible assumption) pB; clear pB) | (go_at_call 54; go_split_ands; with_reducible refine (HU.out _ _ _).mono ?_; rintro e wn2 ⟨rfl, rfl⟩)))
  go_wp2
  go_ret
  exact ⟨rfl, btr HA.out sB⟩
end Go.Proofs.YtdcnpcdohgecbaaDoor

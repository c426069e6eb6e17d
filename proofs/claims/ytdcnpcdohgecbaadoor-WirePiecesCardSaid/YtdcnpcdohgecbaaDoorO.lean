/- A taker's end. -/
import Derived.Test.YtdcnpcdohgecbaaDoorN
namespace Go.Proofs.YtdcnpcdohgecbaaDoor
open Go.RowKit Go.Shelf
attribute [local go_sem] Oper.semAt_some

theorem numAt_range (s : ByteArray) (i : Nat) : 0 ≤ numAt s i ∧ numAt s i ≤ 65535 := by
  unfold numAt
  generalize List.take 2 (List.drop i s.data.toList) = l
  match l with
  | [] => exact ⟨by decide, by decide⟩
  | [_] => exact ⟨by show (0 : Int) ≤ 0; omega, by show (0 : Int) ≤ 65535; omega⟩
  | [a, b] =>
    have ha := a.toNat_lt
    have hb := b.toNat_lt
    constructor
    · show (0 : Int) ≤ 256 * (a.toNat : Int) + (b.toNat : Int); omega
    · show 256 * (a.toNat : Int) + (b.toNat : Int) ≤ 65535; omega
  | _ :: _ :: _ :: _ => exact ⟨by show (0 : Int) ≤ 0; omega, by show (0 : Int) ≤ 65535; omega⟩
set_option maxRecDepth 100000 in
set_option maxHeartbeats 4000000 in
theorem end_c (s : ByteArray) (n : Nat) (hk : n + 5 ≤ s.size) (hs : (s.size : Int) ≤ 4611686018427387904) (w : World) : Calls Tryd.prog 43 #[.agg #[.string s, .int .i64 (n : Int)]] w fun x w' => x = .returned (.int .i64 ((n : Int) + 5 + numAt s (n + 3))) ∧ Below w.heap.size w w' := by
  have HL := Lib.hid (fun W => length_c s n hk (by omega) W)
  have hr := numAt_range s (n + 3)
  have e1 : IntKind.i64.wrap ((n : Int) + 5) = (n : Int) + 5 := IntWalk.i64_in _ (by omega)
  have e2 : IntKind.i64.wrap ((n : Int) + 5 + numAt s (n + 3)) = (n : Int) + 5 + numAt s (n + 3) := IntWalk.i64_in _ (by omega)
  generalize numAt s (n + 3) = L at *
  clear hk hs hr
  go_enter Tryd.func43, Tryd.ntmps43
  go_wp2_with fail
  have k0 : (w.alloc (.cells #[.string s, .int .i64 (n : Int)] 70)).cell? ⟨w.heap.size, 0, none⟩ = some (.string s) := by go_simp
  have k1 : (w.alloc (.cells #[.string s, .int .i64 (n : Int)] 70)).cell? ⟨w.heap.size, 1, none⟩ = some (.int .i64 (n : Int)) := by go_simp
  have HA := Lib.hid (below_alloc w (.cells #[.string s, .int .i64 (n : Int)] 70))
  generalize (w.alloc (.cells #[.string s, .int .i64 (n : Int)] 70)) = U at *
  have u0 : Below U.heap.size U U := Below.refl _ U
  have MK := Lib.hid (show ∀ w', Below U.heap.size U w' → w'.cell? ⟨w.heap.size, 0, none⟩ = some (.string s) ∧ w'.cell? ⟨w.heap.size, 1, none⟩ = some (.int .i64 (n : Int)) ∧ Below U.heap.size U w' from
    (fun w' h => ⟨(h.cell (p := ⟨w.heap.size, 0, none⟩) (blt k0)).trans k0, (h.cell (p := ⟨w.heap.size, 1, none⟩) (blt k1)).trans k1, h⟩))
  go_region_held3 (fun w' => w'.cell? ⟨w.heap.size, 0, none⟩ = some (.string s) ∧ w'.cell? ⟨w.heap.size, 1, none⟩ = some (.int .i64 (n : Int)) ∧ Below U.heap.size U w')
    (first | with_reducible assumption | exact MK.out _ (by with_reducible assumption) | exact MK.out _ (below_drew (by with_reducible assumption)))
    ((first | (go_at_call 56; go_split_ands; with_reducible refine (HL.out _).mono ?_; rintro e wn ⟨rfl, pB⟩; have sB := btr (by with_reducible assumption) pB; clear pB)))
  go_wp2
  go_ret
  exact ⟨rfl, btr HA.out sB⟩
end Go.Proofs.YtdcnpcdohgecbaaDoor

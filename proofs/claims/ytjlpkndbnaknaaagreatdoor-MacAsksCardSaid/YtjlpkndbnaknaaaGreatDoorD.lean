/- total. -/
import Derived.Test.YtjlpkndbnaknaaaGreatDoorC
namespace Go.Proofs.YtjlpkndbnaknaaaGreatDoor
open Go.RowKit Go.Shelf
attribute [local go_sem] Oper.semAt_some
theorem totalL_take (l : List Wd) (k : Nat) (h : k < l.length) : totalL (l.take (k + 1)) = totalL (l.take k) + l[k] := by
  unfold totalL
  rw [List.take_add_one, List.getElem?_eq_getElem h, List.foldl_append]
  rfl
set_option maxRecDepth 100000 in
set_option maxHeartbeats 4000000 in
theorem total_c (l : List Wd) (b o c : Nat) (w : World) (hc : ∀ (j : Nat) (x : Wd), l[j]? = some x → w.cell? ⟨b, o + j, none⟩ = some (.int .u32 (x.toNat : Int))) (hn : l.length ≤ 8) : Calls Tryz.prog 66 #[.slice (some ⟨b, o, none⟩) l.length c] w fun r w' => r = .returned (.int .u32 ((totalL l).toNat : Int)) ∧ Below w.heap.size w w' := by
  have HC := Lib.hid hc
  clear hc
  generalize hL : l.length = L at *
  go_enter Tryz.func66, Tryz.ntmps66
  go_wp2
  go_loopw [3, 8] (fun u i wr => ∃ k : Nat, k ≤ L ∧ i = .int .i64 (k : Int) ∧ u = .int .u32 ((totalL (l.take k)).toNat : Int) ∧ Below w.heap.size w wr) (fun _ i _ => L - (intOf i).toNat)
  case atStart => exact ⟨0, by omega, rfl, rfl, Below.refl _ _⟩
  case round =>
    obtain ⟨k, hk, rfl, rfl, hbl⟩ := hrel
    by_cases hlt : k < L
    · have hkl : k < l.length := by omega
      have hc0 := HC.out k l[k] (List.getElem?_eq_getElem hkl)
      have hcell := (hbl.cell (p := ⟨b, o + k, none⟩) (blt hc0)).trans hc0
      clear hc0
      have HT := Lib.hid (totalL_take l k hkl)
      have hlt' : (k : Int) < (L : Int) := by omega
      have HBl := Lib.hid hbl
      clear hbl
      generalize l[k] = n at *
      generalize totalL (List.take k l) = y at *
      go_wp2
      go_roundw
      case rel => exact ⟨k + 1, by omega, by go_num, by rw [HT.out, ← w_add, IntKind.wrap_u32'], HBl.out⟩
      case measure => simp [intOf]; omega
    · have hlt' : ¬ (k : Int) < (L : Int) := by omega
      have hk2 : List.take k l = l := List.take_of_length_le (by omega)
      rw [hk2]
      go_wp2
      go_ret
      exact ⟨rfl, hbl⟩
end Go.Proofs.YtjlpkndbnaknaaaGreatDoor

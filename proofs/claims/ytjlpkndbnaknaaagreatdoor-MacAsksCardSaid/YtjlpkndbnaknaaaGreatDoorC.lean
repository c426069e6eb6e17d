/- spun. -/
import Derived.Test.YtjlpkndbnaknaaaGreatDoorB
namespace Go.Proofs.YtjlpkndbnaknaaaGreatDoor
open Go.RowKit Go.Shelf
attribute [local go_sem] Oper.semAt_some
theorem spunL_take (x : Wd) (l : List Nat) (k : Nat) (h : k < l.length) : spunL x (l.take (k + 1)) = spunL x (l.take k) ^^^ x.rotateRight l[k] := by
  unfold spunL
  rw [List.take_add_one, List.getElem?_eq_getElem h, List.foldl_append]
  rfl
set_option maxRecDepth 100000 in
set_option maxHeartbeats 4000000 in
theorem spun_c (x : Wd) (l : List Nat) (b o c : Nat) (w : World) (hc : ∀ (j n : Nat), l[j]? = some n → w.cell? ⟨b, o + j, none⟩ = some (.int .i64 (n : Int))) (hl : ∀ n ∈ l, 0 < n ∧ n < 32) (hn : l.length ≤ 8) : Calls Tryz.prog 78 #[.int .u32 (x.toNat : Int), .slice (some ⟨b, o, none⟩) l.length c] w fun r w' => r = .returned (.int .u32 ((spunL x l).toNat : Int)) ∧ Below w.heap.size w w' := by
  have HC := Lib.hid hc
  have HLL := Lib.hid hl
  clear hc hl
  generalize hL : l.length = L at *
  go_enter Tryz.func78, Tryz.ntmps78
  go_wp2
  go_loopw [5, 10] (fun u i wr => ∃ k : Nat, k ≤ L ∧ i = .int .i64 (k : Int) ∧ u = .int .u32 ((spunL x (l.take k)).toNat : Int) ∧ Below w.heap.size w wr) (fun _ i _ => L - (intOf i).toNat)
  case atStart => exact ⟨0, by omega, rfl, rfl, Below.refl _ _⟩
  case round =>
    obtain ⟨k, hk, rfl, rfl, hbl⟩ := hrel
    by_cases hlt : k < L
    · have hkl : k < l.length := by omega
      have hc0 := HC.out k l[k] (List.getElem?_eq_getElem hkl)
      have hcell := (hbl.cell (p := ⟨b, o + k, none⟩) (blt hc0)).trans hc0
      clear hc0
      obtain ⟨h0, h1⟩ := HLL.out _ (List.getElem_mem hkl)
      have HT := Lib.hid (spunL_take x l k hkl)
      have hlt' : (k : Int) < (L : Int) := by omega
      have HBl := Lib.hid hbl
      clear hbl
      generalize l[k] = n at *
      have HR := Lib.hid (fun W => rot_c x n h0 h1 W)
      generalize spunL x (List.take k l) = y at *
      generalize x.rotateRight n = z at *
      go_wp2_with (refine (HR.out _).mono ?_; rintro e w1 ⟨rfl, hb⟩)
      have HB1 := Lib.hid (btr HBl.out hb)
      clear hb
      go_roundw
      case rel => exact ⟨k + 1, by omega, by go_num, by rw [HT.out, ← w_xor], HB1.out⟩
      case measure => simp [intOf]; omega
    · have hlt' : ¬ (k : Int) < (L : Int) := by omega
      have hk2 : List.take k l = l := List.take_of_length_le (by omega)
      rw [hk2]
      go_wp2
      go_ret
      exact ⟨rfl, hbl⟩
end Go.Proofs.YtjlpkndbnaknaaaGreatDoor

/- near, far, first, fifth. -/
import Derived.Test.YtjlpkndbnaknaaaGreatDoorD
namespace Go.Proofs.YtjlpkndbnaknaaaGreatDoor
open Go.RowKit Go.Shelf
attribute [local go_sem] Oper.semAt_some
theorem cells2 {t : TypeId} (w : World) (p q : Nat) : ∀ (j n : Nat), [p, q][j]? = some n → (w.alloc (Obj.cells #[Value.int IntKind.i64 (p : Int), Value.int IntKind.i64 (q : Int)] t)).cell? ⟨w.heap.size, 0 + j, none⟩ = some (.int .i64 (n : Int))
  | 0, n, h => by cases h; go_simp
  | 1, n, h => by cases h; go_simp
  | j + 2, n, h => by simp at h
theorem cells3 {t : TypeId} (w : World) (p q r : Nat) : ∀ (j n : Nat), [p, q, r][j]? = some n → (w.alloc (Obj.cells #[Value.int IntKind.i64 (p : Int), Value.int IntKind.i64 (q : Int), Value.int IntKind.i64 (r : Int)] t)).cell? ⟨w.heap.size, 0 + j, none⟩ = some (.int .i64 (n : Int))
  | 0, n, h => by cases h; go_simp
  | 1, n, h => by cases h; go_simp
  | 2, n, h => by cases h; go_simp
  | j + 3, n, h => by simp at h
set_option maxRecDepth 100000 in
set_option maxHeartbeats 4000000 in
theorem first_c (x : Wd) (w : World) : Calls Tryz.prog 68 #[.int .u32 (x.toNat : Int)] w fun r w' => r = .returned (.int .u32 ((firstW x).toNat : Int)) ∧ Below w.heap.size w w' := by
  go_enter Tryz.func68, Tryz.ntmps68
  go_wp2_with fail
  refine (spun_c x [2, 13, 22] w.heap.size 0 3 _ (cells3 w 2 13 22) (by decide) (by decide)).mono ?_; rintro e w1 ⟨rfl, hb⟩
  go_wp2
  go_ret
  exact ⟨rfl, btr (below_alloc w _) hb⟩
set_option maxRecDepth 100000 in
set_option maxHeartbeats 4000000 in
theorem fifth_c (x : Wd) (w : World) : Calls Tryz.prog 67 #[.int .u32 (x.toNat : Int)] w fun r w' => r = .returned (.int .u32 ((fifthW x).toNat : Int)) ∧ Below w.heap.size w w' := by
  go_enter Tryz.func67, Tryz.ntmps67
  go_wp2_with fail
  refine (spun_c x [6, 11, 25] w.heap.size 0 3 _ (cells3 w 6 11 25) (by decide) (by decide)).mono ?_; rintro e w1 ⟨rfl, hb⟩
  go_wp2
  go_ret
  exact ⟨rfl, btr (below_alloc w _) hb⟩
set_option maxRecDepth 100000 in
set_option maxHeartbeats 4000000 in
theorem near_c (x : Wd) (w : World) : Calls Tryz.prog 64 #[.int .u32 (x.toNat : Int)] w fun r w' => r = .returned (.int .u32 ((nearW x).toNat : Int)) ∧ Below w.heap.size w w' := by
  have HS := Lib.hid (spun_c x [7, 18] w.heap.size 0 2 _ (cells2 (t := 3) w 7 18) (by decide) (by decide))
  have HY := Lib.hid (show nearW x = spunL x [7, 18] ^^^ x >>> 3 from rfl)
  generalize spunL x [7, 18] = y at *
  go_enter Tryz.func64, Tryz.ntmps64
  go_wp2_with (refine HS.out.mono ?_; rintro e w1 ⟨rfl, hb⟩)
  go_ret
  refine ⟨?_, btr (below_alloc w _) hb⟩
  have e : (x.toNat : Int) / (8 : Int) = ((x >>> 3).toNat : Int) := by
    rw [BitVec.toNat_ushiftRight, Nat.shiftRight_eq_div_pow, show (2 : Nat) ^ 3 = 8 from rfl]; omega
  show Ending.returned (.int .u32 (bits .xor .u32 (y.toNat : Int) ((x.toNat : Int) / (8 : Int)))) = _
  rw [HY.out, e, w_xor]
set_option maxRecDepth 100000 in
set_option maxHeartbeats 4000000 in
theorem far_c (x : Wd) (w : World) : Calls Tryz.prog 65 #[.int .u32 (x.toNat : Int)] w fun r w' => r = .returned (.int .u32 ((farW x).toNat : Int)) ∧ Below w.heap.size w w' := by
  have HS := Lib.hid (spun_c x [17, 19] w.heap.size 0 2 _ (cells2 (t := 3) w 17 19) (by decide) (by decide))
  have HY := Lib.hid (show farW x = spunL x [17, 19] ^^^ x >>> 10 from rfl)
  generalize spunL x [17, 19] = y at *
  go_enter Tryz.func65, Tryz.ntmps65
  go_wp2_with (refine HS.out.mono ?_; rintro e w1 ⟨rfl, hb⟩)
  go_ret
  refine ⟨?_, btr (below_alloc w _) hb⟩
  have e : (x.toNat : Int) / (1024 : Int) = ((x >>> 10).toNat : Int) := by
    rw [BitVec.toNat_ushiftRight, Nat.shiftRight_eq_div_pow, show (2 : Nat) ^ 10 = 1024 from rfl]; omega
  show Ending.returned (.int .u32 (bits .xor .u32 (y.toNat : Int) ((x.toNat : Int) / (1024 : Int)))) = _
  rw [HY.out, e, w_xor]
end Go.Proofs.YtjlpkndbnaknaaaGreatDoor

/- cut, whole, RotateLeft32: their contracts. -/
import Derived.Test.YtjlpkndbnaknaaaGreatDoorA
import Derived.Test.YtjlpkndbnaknaaaGreatDoorW
namespace Go.Proofs.YtjlpkndbnaknaaaGreatDoor
open Go.RowKit Go.Shelf
attribute [local go_sem] Oper.semAt_some

set_option maxRecDepth 100000 in
theorem whole_c (s : ByteArray) (_h : s.size ≤ 100000) (w : World) : Calls Tryz.prog 62 #[.string s] w fun x w' => x = .returned (.int .i64 (wholeN s.size : Int)) ∧ Below w.heap.size w w' := by
  go_enter Tryz.func62, Tryz.ntmps62
  go_wp2
  go_ret
  refine ⟨?_, Below.refl _ _⟩
  rw [show ((wholeN s.size : Nat) : Int) = (s.size : Int) - (s.size : Int) % 64 by unfold wholeN; omega]
  rfl
theorem w_shl_run (x : Wd) (k : IntKind) (m : Nat) (hm : m ≤ 32) (P : Program) (w : World) : (Op.shift .shl .u32 (x.toNat : Int) k (m : Int)).run P w = .ok (.int .u32 ((x <<< m).toNat : Int)) w := by
  unfold Op.shift
  rw [if_neg (by omega), show min (m : Int).toNat IntKind.u32.bits = m by show min (m : Int).toNat 32 = m; omega]
  show Sem.run P (pure (Value.int .u32 (IntKind.u32.wrap ((x.toNat : Int) * 2 ^ m)))) w = _
  rw [w_shl]; rfl
theorem w_shr_run (x : Wd) (k : IntKind) (m : Nat) (hm : m ≤ 32) (P : Program) (w : World) : (Op.shift .shr .u32 (x.toNat : Int) k (m : Int)).run P w = .ok (.int .u32 ((x >>> m).toNat : Int)) w := by
  unfold Op.shift
  rw [if_neg (by omega), show min (m : Int).toNat IntKind.u32.bits = m by show min (m : Int).toNat 32 = m; omega]
  show Sem.run P (pure (Value.int .u32 ((x.toNat : Int).fdiv (2 ^ m)))) w = _
  rw [w_shr]; rfl
theorem and31 (n : Nat) (h0 : 0 < n) (h1 : n < 32) : bits .and .u64 (IntKind.u64.wrap (-(n : Int))) 31 = ((32 - n : Nat) : Int) := by
  have : ∀ m : Fin 32, 0 < m.val → bits .and .u64 (IntKind.u64.wrap (-(m.val : Int))) 31 = ((32 - m.val : Nat) : Int) := by decide +kernel
  exact this ⟨n, h1⟩ h0
set_option maxRecDepth 100000 in
theorem rot_c (x : Wd) (n : Nat) (h0 : 0 < n) (h1 : n < 32) (w : World) : Calls Tryz.prog 86 #[.int .u32 (x.toNat : Int), .int .i64 (-(n : Int))] w fun r w' => r = .returned (.int .u32 ((x.rotateRight n).toNat : Int)) ∧ Below w.heap.size w w' := by
  have E := Lib.hid (and31 n h0 h1)
  have s1 : ∀ W, (Op.shift .shl .u32 (x.toNat : Int) .u64 (bits .and .u64 (IntKind.u64.wrap (-(n : Int))) 31)).run Tryz.prog W = .ok (.int .u32 ((x <<< (32 - n)).toNat : Int)) W := fun W => by
    rw [E.out]; exact w_shl_run x .u64 _ (by omega) _ _
  have hy : ((x <<< (32 - n)).toNat : Int) = ((x <<< (32 - n)).toNat : Int) := rfl
  generalize hz : x <<< (32 - n) = y at s1
  clear hy
  go_enter Tryz.func86, Tryz.ntmps86
  go_wp2
  go_ret
  refine ⟨?_, Below.refl _ _⟩
  show Ending.returned (.int .u32 (bits .or .u32 (y.toNat : Int) ((x.toNat : Int) / 2 ^ min (IntKind.u64.wrap (32 - bits .and .u64 (IntKind.u64.wrap (-(n : Int))) 31)).toNat 32))) = _
  rw [E.out, show (IntKind.u64.wrap (32 - ((32 - n : Nat) : Int))).toNat = n by rw [IntKind.wrap_u64]; omega, show min n 32 = n by omega, w_shr', w_or, ← hz, BitVec.or_comm, w_rot x n h1]
end Go.Proofs.YtjlpkndbnaknaaaGreatDoor

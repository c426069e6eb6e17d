/- Small lemmas. -/
import Derived.Test.YtjlpkndbnaknaaaGreatDoorProg
import Derived.WalkKit
import Derived.WalkLawsBesides
import Derived.WalkSpells
import Derived.WalkSmall
import Derived.Outline
import Derived.Deep.DeepFit
import Derived.Lib.Hide
import Derived.BigQuiet
import Derived.Deep.QuietTactic
import Derived.Sort.QuietIn
import Derived.Deep.RegionHeld3
import Derived.IntWalk
import Derived.Laws.StructEq
import Derived.Maps.RangeWalk
import Derived.RangeFuncNested
import Derived.RangeFuncBound
import Derived.RangeFuncCalls
import Derived.RangeFuncLeaves
import Derived.RangeFuncBox
import Derived.Shelf.Abstract
import Derived.Shelf.RegionOpen
import Derived.OwnWalkIn
import Derived.TacticsInMore
import Derived.LoopNIn
import Derived.LoopIn
import Derived.Lib.OthersKept
import Derived.Maps.OwnOps
import Derived.Maps.OwnSet
namespace Go.Proofs.YtjlpkndbnaknaaaGreatDoor
open Go.RowKit

theorem ret_bool {a b : Bool} (h : a = b) : Ending.returned (.bool a) = .returned (.bool b) := by rw [h]
theorem bcell {W w1 : World} (hb : Below W.heap.size W w1) : (∀ b o, b < W.heap.size → w1.cell? ⟨b, o, none⟩ = W.cell? ⟨b, o, none⟩) ∧ (∀ b o, b < W.heap.size → w1.frozen? ⟨b, o, none⟩ = W.frozen? ⟨b, o, none⟩) :=
  ⟨fun b o h => hb.cell (p := ⟨b, o, none⟩) h, fun b o h => hb.frozen (p := ⟨b, o, none⟩) h⟩
theorem blt {w : World} {b o : Nat} {v : Value} (h : w.cell? ⟨b, o, none⟩ = some v) : b < w.heap.size := World.block_lt_of_cell? w ⟨b, o, none⟩ h
theorem keep_alloc {W : World} {b o : Nat} {v : Value} (X : Obj) (h : W.cell? ⟨b, o, none⟩ = some v) : (W.alloc X).cell? ⟨b, o, none⟩ = some v :=
  (World.cell?_of_block (w := W) (Below.heap_alloc W X b (blt h))).trans h
theorem set_other (W : World) (v : Value) {b bm o om : Nat} (hne : b ≠ bm) : (W.setCell ⟨bm, om, none⟩ v).cell? ⟨b, o, none⟩ = W.cell? ⟨b, o, none⟩ :=
  World.cell?_of_block (w := W) (Below.heap_setCell W ⟨bm, om, none⟩ v b hne)
theorem below_drewN {m : Nat} {a w : World} (h : Below m a w) (n : Nat) : Below m a (w.drewN n) := h.trans ⟨rfl, rfl, rfl, Nat.le_refl _, fun _ _ => rfl⟩
theorem below_drew {m : Nat} {a w : World} (h : Below m a w) : Below m a w.drew := h.trans ⟨rfl, rfl, rfl, Nat.le_refl _, fun _ _ => rfl⟩
theorem below_alloc (w : World) (o : Obj) : Below w.heap.size w (w.alloc o) := (Below.refl _ w).alloc (Nat.le_refl _) o
theorem bal {a W : World} (h : Below a.heap.size a W) (o : Obj) : Below a.heap.size a (W.alloc o) := h.alloc h.size o
theorem btr {a W W' : World} (h : Below a.heap.size a W) (k : Below W.heap.size W W') : Below a.heap.size a W' := h.trans (k.mono h.size)

/-- The bits of a number that a mask leaves. -/
theorem and_mask {a : Int} {m : Nat} (h0 : 0 ≤ a) (h1 : a ≤ 4294967295) (hm : m ≤ 32) : (((BitVec.ofInt 64 a &&& BitVec.ofInt 64 (((2 ^ m : Nat) : Int) - 1)).toNat : Nat) : Int) = a % ((2 ^ m : Nat) : Int) := by
  obtain ⟨n, rfl⟩ : ∃ n : Nat, a = n := ⟨a.toNat, by omega⟩
  have hp : (2 : Nat) ^ m ≤ 2 ^ 32 := Nat.pow_le_pow_right (by omega) hm
  have hp0 := Nat.two_pow_pos m
  rw [show (((2 ^ m : Nat) : Int) - 1) = (((2 ^ m - 1 : Nat)) : Int) by omega]
  simp only [BitVec.ofInt_natCast, BitVec.toNat_and, BitVec.toNat_ofNat]
  rw [Nat.mod_eq_of_lt (show n < 2 ^ 64 by omega), Nat.mod_eq_of_lt (show 2 ^ m - 1 < 2 ^ 64 by omega), Nat.and_two_pow_sub_one_eq_mod]
  rfl
theorem or_mask {a : Int} {m : Nat} (h0 : 0 ≤ a) (h1 : a ≤ 4294967295) (hm : m ≤ 32) (hd : a % ((2 ^ m : Nat) : Int) = 0) : (((BitVec.ofInt 64 a ||| BitVec.ofInt 64 (((2 ^ m : Nat) : Int) - 1)).toNat : Nat) : Int) = a + (((2 ^ m : Nat) : Int) - 1) := by
  obtain ⟨n, rfl⟩ : ∃ n : Nat, a = n := ⟨a.toNat, by omega⟩
  have hp : (2 : Nat) ^ m ≤ 2 ^ 32 := Nat.pow_le_pow_right (by omega) hm
  have hp0 := Nat.two_pow_pos m
  have hd' : n % 2 ^ m = 0 := by omega
  have e := Nat.div_add_mod n (2 ^ m)
  rw [hd', Nat.add_zero] at e
  rw [show (((2 ^ m : Nat) : Int) - 1) = (((2 ^ m - 1 : Nat)) : Int) by omega]
  simp only [BitVec.ofInt_natCast, BitVec.toNat_or, BitVec.toNat_ofNat]
  rw [Nat.mod_eq_of_lt (show n < 2 ^ 64 by omega), Nat.mod_eq_of_lt (show 2 ^ m - 1 < 2 ^ 64 by omega), ← e, ← Nat.two_pow_add_eq_or_of_lt (by omega)]
  omega

theorem pow_cast (m : Nat) : (((2 ^ m : Nat) : Int)) = (2 : Int) ^ m := by simp
theorem pow_le {m : Nat} (hm : m ≤ 32) : (0 : Int) < 2 ^ m ∧ (2 : Int) ^ m ≤ 4294967296 := by
  have hp : (2 : Nat) ^ m ≤ 2 ^ 32 := Nat.pow_le_pow_right (by omega) hm
  have hp0 := Nat.two_pow_pos m
  rw [← pow_cast]; omega
theorem bits_and {a : Int} {m : Nat} (h0 : 0 ≤ a) (h1 : a ≤ 4294967295) (hm : m ≤ 32) : bits .and .i64 a ((2 : Int) ^ m - 1) = a % (2 : Int) ^ m := by
  have e := and_mask h0 h1 hm
  rw [pow_cast] at e
  have e2 : bits .and .i64 a ((2 : Int) ^ m - 1) = IntKind.i64.wrap (((BitVec.ofInt 64 a &&& BitVec.ofInt 64 ((2 : Int) ^ m - 1)).toNat : Nat) : Int) := rfl
  have hp := pow_le hm
  have g1 := Int.emod_nonneg a (show (2 : Int) ^ m ≠ 0 by omega)
  have g2 := Int.emod_lt_of_pos a hp.1
  rw [e2, e]
  exact IntWalk.i64_in _ (by omega)
theorem bits_or {a : Int} {m : Nat} (h0 : 0 ≤ a) (h1 : a ≤ 4294967295) (hm : m ≤ 32) (hd : a % (2 : Int) ^ m = 0) : bits .or .i64 a ((2 : Int) ^ m - 1) = a + ((2 : Int) ^ m - 1) := by
  have e := or_mask h0 h1 hm (by rw [pow_cast]; exact hd)
  rw [pow_cast] at e
  have e2 : bits .or .i64 a ((2 : Int) ^ m - 1) = IntKind.i64.wrap (((BitVec.ofInt 64 a ||| BitVec.ofInt 64 ((2 : Int) ^ m - 1)).toNat : Nat) : Int) := rfl
  have hp := pow_le hm
  rw [e2, e]
  exact IntWalk.i64_in _ (by omega)
end Go.Proofs.YtjlpkndbnaknaaaGreatDoor

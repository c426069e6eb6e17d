/- A, EA, EB, EC, EJ, Fst, P, Q, R, W, B, C, D, E, Held -/
import Derived.Test.YtikpmkidfppknaaGreatDoorProg
import Derived.WalkKit
import Derived.WalkLawsBesides
import Derived.WalkSpells
import Derived.WalkSmall
import Derived.Outline
import Derived.Deep.DeepFit
import Derived.Lib.Hide
import Derived.BigQuiet
import Derived.Deep.QuietTactic
import Derived.Sort.QuietIn
import Derived.Deep.RegionHeld3
import Derived.IntWalk
import Derived.Laws.StructEq
import Derived.Maps.RangeWalk
import Derived.RangeFuncNested
import Derived.RangeFuncBound
import Derived.RangeFuncCalls
import Derived.RangeFuncLeaves
import Derived.RangeFuncBox
import Derived.Shelf.Abstract
import Derived.Shelf.RegionOpen
import Derived.OwnWalkIn
import Derived.TacticsInMore
import Derived.LoopNIn
import Derived.LoopIn
import Derived.Lib.OthersKept
import Derived.Maps.OwnOps
import Derived.Maps.OwnSet
import Derived.LaidEql
import Derived.Stop.Asserts
import Derived.RowKitTokens
import Derived.LoopTactic
import Derived.Laws.BitsAllLaws
set_option linter.unusedVariables false
set_option linter.unusedSimpArgs false
/- Small lemmas. -/
namespace Go.Proofs.YtikpmkidfppknaaGreatDoor
open Go.RowKit

theorem ret_bool {a b : Bool} (h : a = b) : Ending.returned (.bool a) = .returned (.bool b) := by rw [h]
theorem bcell {W w1 : World} (hb : Below W.heap.size W w1) : (∀ b o, b < W.heap.size → w1.cell? ⟨b, o, none⟩ = W.cell? ⟨b, o, none⟩) ∧ (∀ b o, b < W.heap.size → w1.frozen? ⟨b, o, none⟩ = W.frozen? ⟨b, o, none⟩) :=
  ⟨fun b o h => hb.cell (p := ⟨b, o, none⟩) h, fun b o h => hb.frozen (p := ⟨b, o, none⟩) h⟩
theorem blt {w : World} {b o : Nat} {v : Value} (h : w.cell? ⟨b, o, none⟩ = some v) : b < w.heap.size := World.block_lt_of_cell? w ⟨b, o, none⟩ h
theorem keep_alloc {W : World} {b o : Nat} {v : Value} (X : Obj) (h : W.cell? ⟨b, o, none⟩ = some v) : (W.alloc X).cell? ⟨b, o, none⟩ = some v :=
  (World.cell?_of_block (w := W) (Below.heap_alloc W X b (blt h))).trans h
theorem set_other (W : World) (v : Value) {b bm o om : Nat} (hne : b ≠ bm) : (W.setCell ⟨bm, om, none⟩ v).cell? ⟨b, o, none⟩ = W.cell? ⟨b, o, none⟩ :=
  World.cell?_of_block (w := W) (Below.heap_setCell W ⟨bm, om, none⟩ v b hne)
theorem below_drewN {m : Nat} {a w : World} (h : Below m a w) (n : Nat) : Below m a (w.drewN n) := h.trans ⟨rfl, rfl, rfl, Nat.le_refl _, fun _ _ => rfl⟩
theorem below_drew {m : Nat} {a w : World} (h : Below m a w) : Below m a w.drew := h.trans ⟨rfl, rfl, rfl, Nat.le_refl _, fun _ _ => rfl⟩
theorem below_alloc (w : World) (o : Obj) : Below w.heap.size w (w.alloc o) := (Below.refl _ w).alloc (Nat.le_refl _) o
theorem bal {a W : World} (h : Below a.heap.size a W) (o : Obj) : Below a.heap.size a (W.alloc o) := h.alloc h.size o
theorem btr {a W W' : World} (h : Below a.heap.size a W) (k : Below W.heap.size W W') : Below a.heap.size a W' := h.trans (k.mono h.size)

/-- The bits of a number that a mask leaves. -/
theorem and_mask {a : Int} {m : Nat} (h0 : 0 ≤ a) (h1 : a ≤ 4294967295) (hm : m ≤ 32) : (((BitVec.ofInt 64 a &&& BitVec.ofInt 64 (((2 ^ m : Nat) : Int) - 1)).toNat : Nat) : Int) = a % ((2 ^ m : Nat) : Int) := by
  obtain ⟨n, rfl⟩ : ∃ n : Nat, a = n := ⟨a.toNat, by omega⟩
  have hp : (2 : Nat) ^ m ≤ 2 ^ 32 := Nat.pow_le_pow_right (by omega) hm
  have hp0 := Nat.two_pow_pos m
  rw [show (((2 ^ m : Nat) : Int) - 1) = (((2 ^ m - 1 : Nat)) : Int) by omega]
  simp only [BitVec.ofInt_natCast, BitVec.toNat_and, BitVec.toNat_ofNat]
  rw [Nat.mod_eq_of_lt (show n < 2 ^ 64 by omega), Nat.mod_eq_of_lt (show 2 ^ m - 1 < 2 ^ 64 by omega), Nat.and_two_pow_sub_one_eq_mod]
  rfl
theorem or_mask {a : Int} {m : Nat} (h0 : 0 ≤ a) (h1 : a ≤ 4294967295) (hm : m ≤ 32) (hd : a % ((2 ^ m : Nat) : Int) = 0) : (((BitVec.ofInt 64 a ||| BitVec.ofInt 64 (((2 ^ m : Nat) : Int) - 1)).toNat : Nat) : Int) = a + (((2 ^ m : Nat) : Int) - 1) := by
  obtain ⟨n, rfl⟩ : ∃ n : Nat, a = n := ⟨a.toNat, by omega⟩
  have hp : (2 : Nat) ^ m ≤ 2 ^ 32 := Nat.pow_le_pow_right (by omega) hm
  have hp0 := Nat.two_pow_pos m
  have hd' : n % 2 ^ m = 0 := by omega
  have e := Nat.div_add_mod n (2 ^ m)
  rw [hd', Nat.add_zero] at e
  rw [show (((2 ^ m : Nat) : Int) - 1) = (((2 ^ m - 1 : Nat)) : Int) by omega]
  simp only [BitVec.ofInt_natCast, BitVec.toNat_or, BitVec.toNat_ofNat]
  rw [Nat.mod_eq_of_lt (show n < 2 ^ 64 by omega), Nat.mod_eq_of_lt (show 2 ^ m - 1 < 2 ^ 64 by omega), ← e, ← Nat.two_pow_add_eq_or_of_lt (by omega)]
  omega

theorem pow_cast (m : Nat) : (((2 ^ m : Nat) : Int)) = (2 : Int) ^ m := by simp
theorem pow_le {m : Nat} (hm : m ≤ 32) : (0 : Int) < 2 ^ m ∧ (2 : Int) ^ m ≤ 4294967296 := by
  have hp : (2 : Nat) ^ m ≤ 2 ^ 32 := Nat.pow_le_pow_right (by omega) hm
  have hp0 := Nat.two_pow_pos m
  rw [← pow_cast]; omega
theorem bits_and {a : Int} {m : Nat} (h0 : 0 ≤ a) (h1 : a ≤ 4294967295) (hm : m ≤ 32) : bits .and .i64 a ((2 : Int) ^ m - 1) = a % (2 : Int) ^ m := by
  have e := and_mask h0 h1 hm
  rw [pow_cast] at e
  have e2 : bits .and .i64 a ((2 : Int) ^ m - 1) = IntKind.i64.wrap (((BitVec.ofInt 64 a &&& BitVec.ofInt 64 ((2 : Int) ^ m - 1)).toNat : Nat) : Int) := rfl
  have hp := pow_le hm
  have g1 := Int.emod_nonneg a (show (2 : Int) ^ m ≠ 0 by omega)
  have g2 := Int.emod_lt_of_pos a hp.1
  rw [e2, e]
  exact IntWalk.i64_in _ (by omega)
theorem bits_or {a : Int} {m : Nat} (h0 : 0 ≤ a) (h1 : a ≤ 4294967295) (hm : m ≤ 32) (hd : a % (2 : Int) ^ m = 0) : bits .or .i64 a ((2 : Int) ^ m - 1) = a + ((2 : Int) ^ m - 1) := by
  have e := or_mask h0 h1 hm (by rw [pow_cast]; exact hd)
  rw [pow_cast] at e
  have e2 : bits .or .i64 a ((2 : Int) ^ m - 1) = IntKind.i64.wrap (((BitVec.ofInt 64 a ||| BitVec.ofInt 64 ((2 : Int) ^ m - 1)).toNat : Nat) : Int) := rfl
  have hp := pow_le hm
  rw [e2, e]
  exact IntWalk.i64_in _ (by omega)
end Go.Proofs.YtikpmkidfppknaaGreatDoor

/- errors.As, where the target is a variable of the fault's own type: its contract. -/
namespace Go.Proofs.YtikpmkidfppknaaGreatDoor
open Go.RowKit Go.Extern.Stop Go.Stop Go.Extern

theorem valueOf63 (t : Addr) (w : World) : (ReflectliteValue.unpack (.iface 84 (.pointer (some t)))).run Tryz.prog w
    = .ok (.agg #[.pointer (some ⟨7, 84, none⟩), .pointer (some ⟨w.heap.size, 0, none⟩), .int .u64 150]) (w.alloc (.cells #[.pointer (some t)] 84)) := by kernel_rfl
theorem type63 (a : Addr) (w : World) : (ReflectliteValue.methodAny (ReflectliteValue.valueError "reflectlite.Value.Type" 0) (fun t _ _ _ => ReflectliteType.toType t) #[.agg #[.pointer (some ⟨7, 84, none⟩), .pointer (some a), .int .u64 150]]).run Tryz.prog w
    = .ok (.iface 144 (.agg #[.pointer (some ⟨7, 84, none⟩)])) w := by kernel_rfl
theorem methodKind (h : Value) (w : World) : (Go.method 316 144 (.agg #[h]) "Kind").run Tryz.prog w = .ok (137, h) w := by kernel_rfl
theorem kind63 (w : World) : ((ReflectliteType.abiMethod fun t => (fun a : Nat => Value.int IntKind.u8 (a : Int)) <$> Rtype.kind t) #[.pointer (some ⟨7, 84, none⟩)]).run Tryz.prog w = .ok (.int .u8 22) w := by kernel_rfl
theorem kind61 (w : World) : ((ReflectliteType.abiMethod fun t => (fun a : Nat => Value.int IntKind.u8 (a : Int)) <$> Rtype.kind t) #[.pointer (some ⟨7, 82, none⟩)]).run Tryz.prog w = .ok (.int .u8 25) w := by kernel_rfl

theorem rlm (z : Sem Value) (f : TypeId → Addr → Nat → Nat → Sem Value) (v : Value) :
    ReflectliteValue.method z f #[v] = (do match ← ReflectliteValue.parts v with | none => z | some (t, a, fl) => f t a fl (fl % 32)) := rfl
theorem parts63 (a : Addr) (w : World) : (ReflectliteValue.parts (.agg #[.pointer (some ⟨7, 84, none⟩), .pointer (some a), .int .u64 150])).run Tryz.prog w = .ok (some (84, a, 150)) w := by kernel_rfl
theorem isNil63 (a p : Addr) (W : World) (ha : W.cell? a = some (.pointer (some p))) :
    (ReflectliteValue.method (ReflectliteValue.valueError "reflectlite.Value.IsNil" 0) ReflectliteValue.isNil #[.agg #[.pointer (some ⟨7, 84, none⟩), .pointer (some a), .int .u64 150]]).run Tryz.prog W = .ok (.bool false) W := by
  rw [rlm]
  simp only [Sem.run_bind, parts63, Result.andThen]
  simp [ReflectliteValue.isNil, loadVar, isAgg, underlying, Tryz.underlying84, ha, Result.andThen]

theorem methodElem (h : Value) (w : World) : (Go.method 316 144 (.agg #[h]) "Elem").run Tryz.prog w = .ok (149, .agg #[h]) w := by kernel_rfl
theorem methodImplements (h : Value) (w : World) : (Go.method 316 144 (.agg #[h]) "Implements").run Tryz.prog w = .ok (150, .agg #[h]) w := by kernel_rfl
theorem methodAssignableTo (h : Value) (w : World) : (Go.method 316 144 (.agg #[h]) "AssignableTo").run Tryz.prog w = .ok (147, .agg #[h]) w := by kernel_rfl
theorem elem63 (w : World) : (ReflectliteType.method ReflectliteType.elem #[.agg #[.pointer (some ⟨7, 84, none⟩)]]).run Tryz.prog w = .ok (.iface 144 (.agg #[.pointer (some ⟨7, 82, none⟩)])) w := by kernel_rfl
theorem implements61 (w : World) : (ReflectliteType.relation "Implements" ReflectliteType.implements_ #[.agg #[.pointer (some ⟨7, 82, none⟩)], .iface 144 (.agg #[.pointer (some ⟨7, 47, none⟩)])]).run Tryz.prog w = .ok (.bool true) w := by kernel_rfl
theorem typeOf61 (v : Value) (w : World) : (ReflectliteType.typeOf #[.iface 82 v]).run Tryz.prog w = .ok (.iface 144 (.agg #[.pointer (some ⟨7, 82, none⟩)])) w := by kernel_rfl
theorem assignable61 (w : World) : (ReflectliteType.relation "AssignableTo" ReflectliteType.assignableTo #[.agg #[.pointer (some ⟨7, 82, none⟩)], .iface 144 (.agg #[.pointer (some ⟨7, 82, none⟩)])]).run Tryz.prog w = .ok (.bool true) w := by kernel_rfl
theorem valueOf61 (e : Int) (w : World) : (ReflectliteValue.unpack (.iface 82 (.agg #[.int .i64 e]))).run Tryz.prog w
    = .ok (.agg #[.pointer (some ⟨7, 82, none⟩), .pointer (some ⟨w.heap.size, 0, none⟩), .int .u64 153]) (w.alloc (.cells #[.int .i64 e] 82)) := by kernel_rfl

theorem elemOf63 (w : World) : (Rtype.elem? 84).run Tryz.prog w = .ok (some 82) w := by kernel_rfl
theorem mk61 (p : Addr) (w : World) : (ReflectliteValue.mk 82 p ReflectliteValue.flagAddr).run Tryz.prog w = .ok (.agg #[.pointer (some ⟨7, 82, none⟩), .pointer (some p), .int .u64 409]) w := by kernel_rfl
theorem elemV63 (a p : Addr) (W : World) (ha : W.cell? a = some (.pointer (some p))) :
    (ReflectliteValue.method (ReflectliteValue.valueError "reflectlite.Value.Elem" 0) ReflectliteValue.elem #[.agg #[.pointer (some ⟨7, 84, none⟩), .pointer (some a), .int .u64 150]]).run Tryz.prog W
      = .ok (.agg #[.pointer (some ⟨7, 82, none⟩), .pointer (some p), .int .u64 409]) W := by
  rw [rlm]
  simp only [Sem.run_bind, parts63, Result.andThen]
  simp [ReflectliteValue.elem, loadVar, isAgg, underlying, Tryz.underlying84, ha, Result.andThen, elemOf63, mk61]
theorem rls (v x : Value) : ReflectliteValue.set #[v, x] = (do
    let (some (dst, a, fl), some (src, b, _)) := (← ReflectliteValue.parts v, ← ReflectliteValue.parts x)
      | unsupported (.noEntry "extern/(internal/reflectlite.Value).Set.zeroValue")
    if fl / ReflectliteValue.flagAddr % 2 == 0 then unsupported (.noEntry "extern/(internal/reflectlite.Value).Set.unaddressable")
    let val ← loadVar src b
    if ← Rtype.directlyAssignable dst src then storeVar dst a val
    else if ← Rtype.implements dst src then
      if (← Rtype.kind src) == 20 then
        match val with
        | .nilIface => unsupported (.noEntry "extern/reflectlite: a nil value of one interface type handed on as a value of another")
        | _ => storeVar dst a val
      else storeVar dst a (.iface src val)
    else panicString ("reflectlite.Set: value of type " ++ (← Rtype.spelt src) ++ " is not assignable to type " ++ (← Rtype.spelt dst))
    pure (.tuple #[])) := rfl
theorem parts61a (a : Addr) (w : World) : (ReflectliteValue.parts (.agg #[.pointer (some ⟨7, 82, none⟩), .pointer (some a), .int .u64 409])).run Tryz.prog w = .ok (some (82, a, 409)) w := by kernel_rfl
theorem parts61 (a : Addr) (w : World) : (ReflectliteValue.parts (.agg #[.pointer (some ⟨7, 82, none⟩), .pointer (some a), .int .u64 153])).run Tryz.prog w = .ok (some (82, a, 153)) w := by kernel_rfl
theorem direct61 (w : World) : (Rtype.directlyAssignable 82 82).run Tryz.prog w = .ok true w := by kernel_rfl
theorem size61 (w : World) : (sizeOf 82).run Tryz.prog w = .ok 1 w := by kernel_rfl
theorem set61 (ta b : Addr) (e : Int) (old : Value) (W : World) (hb : W.cell? b = some (.int .i64 e)) (ht : W.cell? ta = some old) (hf : W.frozen? ta = false) :
    (ReflectliteValue.set #[.agg #[.pointer (some ⟨7, 82, none⟩), .pointer (some ta), .int .u64 409], .agg #[.pointer (some ⟨7, 82, none⟩), .pointer (some b), .int .u64 153]]).run Tryz.prog W
      = .ok (.tuple #[]) (W.setCell ta (.int .i64 e)) := by
  rw [rls]
  simp only [Sem.run_bind, parts61a, parts61, Result.andThen]
  have hl : (loadVar 82 b).run Tryz.prog W = .ok (.agg #[.int .i64 e]) W := by
    simp [loadVar, isAgg, underlying, Tryz.underlying82, Result.andThen, loadCells, loadCellsFrom, Addr.add, hb]
  simp [ReflectliteValue.flagAddr, hl, Result.andThen, direct61, storeVar, Value.cells, storeCells, Addr.add]
  rw [run_store Tryz.prog W ta _ _ (by rfl)]
  simp [ht, hf]
end Go.Proofs.YtikpmkidfppknaaGreatDoor

/- errors.As, where the target is a variable of the fault's own type: nil, and a fault. -/
namespace Go.Proofs.YtikpmkidfppknaaGreatDoor
open Go.RowKit Go.Extern.Stop Go.Stop Go.Extern

/-- errors.As(nil, target). -/
theorem as_nil (t : Value) (w : World) :
    Calls Tryz.prog 56 #[.nilIface, t] w fun e w' => e = .returned (.bool false) ∧ w' = w := by
  go_enter Tryz.func56, Tryz.ntmps56
  go_wp2
  go_ret
  exact ⟨rfl, rfl⟩

set_option maxRecDepth 100000 in
set_option maxHeartbeats 4000000 in
theorem as_hit (e : Int) (t : Addr) (old : Value) (w : World) (hg : w.cell? ⟨0, 0, none⟩ = some (.iface 144 (.agg #[.pointer (some ⟨7, 47, none⟩)]))) (ht0 : w.cell? t = some old) (hf0 : w.frozen? t = false) :
    Calls Tryz.prog 56 #[.iface 82 (.agg #[.int .i64 e]), .iface 84 (.pointer (some t))] w fun ev w' => ev = .returned (.bool true) ∧ w' = ((((w.alloc (.cells #[.pointer (some t)] 84)).alloc (.cells #[.pointer (some ⟨7, 84, none⟩), .pointer (some ⟨w.heap.size, 0, none⟩), .int .u64 150] 116)).alloc (.cells #[.pointer (some ⟨7, 84, none⟩), .pointer (some ⟨w.heap.size, 0, none⟩), .int .u64 150] 116)).alloc (.cells #[.int .i64 e] 82)).setCell t (.int .i64 e) := by
  have g6 := @run_callFunc_extern Tryz.prog 77 _ (fun args => ReflectliteValue.unpack (args.getD 0 (.tuple #[]))) Tryz.func77 (by kernel_rfl) (by kernel_rfl) (by kernel_rfl) (by kernel_rfl)
  have g7 := @run_callFunc_extern Tryz.prog 78 _ (ReflectliteValue.methodAny (ReflectliteValue.valueError "reflectlite.Value.Type" 0) (fun t _ _ _ => ReflectliteType.toType t)) Tryz.func78 (by kernel_rfl) (by kernel_rfl) (by kernel_rfl) (by kernel_rfl)
  have g8 := @run_callFunc_extern Tryz.prog 79 _ (ReflectliteValue.method (ReflectliteValue.valueError "reflectlite.Value.IsNil" 0) ReflectliteValue.isNil) Tryz.func79 (by kernel_rfl) (by kernel_rfl) (by kernel_rfl) (by kernel_rfl)
  have g27 := @run_callFunc_extern Tryz.prog 137 _ (ReflectliteType.abiMethod fun t => do pure (.int .u8 (← Rtype.kind t))) Tryz.func137 (by kernel_rfl) (by kernel_rfl) (by kernel_rfl) (by kernel_rfl)
  have g37 := @run_callFunc_extern Tryz.prog 149 _ (ReflectliteType.method ReflectliteType.elem) Tryz.func149 (by kernel_rfl) (by kernel_rfl) (by kernel_rfl) (by kernel_rfl)
  have g38 := @run_callFunc_extern Tryz.prog 150 _ (ReflectliteType.relation "Implements" ReflectliteType.implements_) Tryz.func150 (by kernel_rfl) (by kernel_rfl) (by kernel_rfl) (by kernel_rfl)
  have g10 := @run_callFunc_extern Tryz.prog 91 _ ReflectliteType.typeOf Tryz.func91 (by kernel_rfl) (by kernel_rfl) (by kernel_rfl) (by kernel_rfl)
  have g35 := @run_callFunc_extern Tryz.prog 147 _ (ReflectliteType.relation "AssignableTo" ReflectliteType.assignableTo) Tryz.func147 (by kernel_rfl) (by kernel_rfl) (by kernel_rfl) (by kernel_rfl)
  have g11 := @run_callFunc_extern Tryz.prog 93 _ (ReflectliteValue.method (ReflectliteValue.valueError "reflectlite.Value.Elem" 0) ReflectliteValue.elem) Tryz.func93 (by kernel_rfl) (by kernel_rfl) (by kernel_rfl) (by kernel_rfl)
  have g12 := @run_callFunc_extern Tryz.prog 94 _ ReflectliteValue.set Tryz.func94 (by kernel_rfl) (by kernel_rfl) (by kernel_rfl) (by kernel_rfl)
  have tO := typeOf61
  have mA := methodAssignableTo
  have a25 := assignable61
  have v25 := valueOf61
  have f6 := valueOf63
  have f7 := type63
  have mK := methodKind
  have mE := methodElem
  have mI := methodImplements
  have k27 := kind63
  have k25 := kind61
  have e27 := elem63
  have i25 := implements61
  have n8 := isNil63 ⟨w.heap.size, 0, none⟩ t ((w.alloc (.cells #[.pointer (some t)] 84)).alloc (.cells #[.pointer (some ⟨7, 84, none⟩), .pointer (some ⟨w.heap.size, 0, none⟩), .int .u64 150] 116)) (by simp)
  have hlt : 0 < w.heap.size := blt hg
  have hg2 : ((w.alloc (.cells #[.pointer (some t)] 84)).alloc (.cells #[.pointer (some ⟨7, 84, none⟩), .pointer (some ⟨w.heap.size, 0, none⟩), .int .u64 150] 116)).cell? ⟨0, 0, none⟩ = some (.iface 144 (.agg #[.pointer (some ⟨7, 47, none⟩)])) := by
    rw [World.cell?_alloc_lt _ _ ⟨0, 0, none⟩ (by rw [World.size_alloc]; exact Nat.lt_succ_of_lt hlt), World.cell?_alloc_lt _ _ ⟨0, 0, none⟩ hlt]; exact hg
  have htl : t.block < w.heap.size := by
    rcases Nat.lt_or_ge t.block w.heap.size with h | h
    · exact h
    · simp [World.cell?, Array.getElem?_eq_none h] at ht0
  have el := elemV63 ⟨w.heap.size, 0, none⟩ t (((w.alloc (.cells #[.pointer (some t)] 84)).alloc (.cells #[.pointer (some ⟨7, 84, none⟩), .pointer (some ⟨w.heap.size, 0, none⟩), .int .u64 150] 116)).alloc (.cells #[.pointer (some ⟨7, 84, none⟩), .pointer (some ⟨w.heap.size, 0, none⟩), .int .u64 150] 116)) (by rw [World.cell?_alloc_lt _ _ ⟨w.heap.size, 0, none⟩ (by simp; omega)]; simp)
  have st := set61 t ⟨w.heap.size + 1 + 1 + 1, 0, none⟩ e old ((((w.alloc (.cells #[.pointer (some t)] 84)).alloc (.cells #[.pointer (some ⟨7, 84, none⟩), .pointer (some ⟨w.heap.size, 0, none⟩), .int .u64 150] 116)).alloc (.cells #[.pointer (some ⟨7, 84, none⟩), .pointer (some ⟨w.heap.size, 0, none⟩), .int .u64 150] 116)).alloc (.cells #[.int .i64 e] 82))
    (by rw [World.cell?_alloc_at _ _ _ _ (by simp)]; rfl)
    (by rw [World.cell?_alloc_lt _ _ t (by simp; omega), World.cell?_alloc_lt _ _ t (by simp; omega), World.cell?_alloc_lt _ _ t (by simp; omega), World.cell?_alloc_lt _ _ t htl]; exact ht0)
    (by rw [World.frozen?_alloc_old _ _ t (by simp; omega), World.frozen?_alloc_old _ _ t (by simp; omega), World.frozen?_alloc_old _ _ t (by simp; omega), World.frozen?_alloc_old _ _ t (Nat.ne_of_lt htl)]; exact hf0)
  go_enter Tryz.func56, Tryz.ntmps56
  go_wp2
  refine wp_loop_rounds 1 ?_
  rw [rounds_succ]
  go_wp2
  go_ret
  exact ⟨rfl, rfl⟩
end Go.Proofs.YtikpmkidfppknaaGreatDoor

/- errors.Is, where both are nil or one fault; the faults' own makers. -/
namespace Go.Proofs.YtikpmkidfppknaaGreatDoor
open Go.RowKit Go.Extern.Stop Go.Stop Go.Extern

theorem methodComparable (h : Value) (w : World) : (Go.method 316 144 (.agg #[h]) "Comparable").run Tryz.prog w = .ok (148, .agg #[h]) w := by kernel_rfl
theorem comparable61 (w : World) : ((ReflectliteType.method fun t => do Rtype.noPackHeld "Comparable" t; (fun a => Value.bool a.comparable) <$> typeInfo t) #[.agg #[.pointer (some ⟨7, 82, none⟩)]]).run Tryz.prog w = .ok (.bool true) w := by kernel_rfl

theorem eql61 (e : Int) (w : World) : (binOp .eql 47 (.iface 82 (.agg #[.int .i64 e])) (.iface 82 (.agg #[.int .i64 e]))).run Tryz.prog w = .ok (.bool true) w := by
  obtain ⟨i, hi, hcmp⟩ := Option.map_eq_some_iff.1 (show (Tryz.prog.info? 82).map (·.comparable) = some true by kernel_rfl)
  have hp : ∀ W, (part 26 #[.int .i64 e] 0).run Tryz.prog W = .ok (.int .i64 e) W := fun _ => by kernel_rfl
  have hs : ∀ d : Nat, (Op.equalIn (d + 2) 82 (.agg #[.int .i64 e]) (.agg #[.int .i64 e])).run Tryz.prog w = .ok true w := fun d => by
    rw [run_equalIn_struct w (d + 1) 82 _ _ (by simp [Program.fieldsOf, Tryz.underlying82]) (by kernel_rfl)]
    simp [Program.fieldsOf, Tryz.underlying82, Op.eqFields, hp, Op.equalIn, run_underlying Tryz.underlying26]
  have h : ∀ d : Nat, (Op.equalIn (d + 3) 47 (.iface 82 (.agg #[.int .i64 e])) (.iface 82 (.agg #[.int .i64 e]))).run Tryz.prog w = .ok true w := fun d => by
    rw [Op.equalIn]
    simp [run_underlying Tryz.underlying47, typeInfo, hi, hcmp, hs]
  simp only [binOp]
  simp [Op.equal, Op.maxDepth, h 9997]
set_option maxRecDepth 100000 in
/-- errors.Is(nil, x). -/
theorem is_nil (e : Int) (w : World) :
    Calls Tryz.prog 75 #[.nilIface, .iface 82 (.agg #[.int .i64 e])] w fun x w' => x = .returned (.bool false) ∧ w = w' := by
  have hn := run_eql_iface_nil_left (P := Tryz.prog) w 82 (.agg #[.int .i64 e]) Tryz.underlying47
  go_enter Tryz.func75, Tryz.ntmps75
  go_wp2
  go_ret
  exact ⟨rfl, rfl⟩
set_option maxRecDepth 100000 in
set_option maxHeartbeats 4000000 in
/-- errors.Is(x, x), x a fault. -/
theorem is_same (e : Int) (w : World) :
    Calls Tryz.prog 75 #[.iface 82 (.agg #[.int .i64 e]), .iface 82 (.agg #[.int .i64 e])] w fun x w' => x = .returned (.bool true) ∧ w = w' := by
  have h8 := @run_callFunc_extern Tryz.prog 91 _ ReflectliteType.typeOf Tryz.func91 (by kernel_rfl) (by kernel_rfl) (by kernel_rfl) (by kernel_rfl)
  have h32 := @run_callFunc_extern Tryz.prog 148 _ (ReflectliteType.method fun t => do Rtype.noPackHeld "Comparable" t; pure (.bool (← typeInfo t).comparable)) Tryz.func148 (by kernel_rfl) (by kernel_rfl) (by kernel_rfl) (by kernel_rfl)
  have tT := typeOf61
  have cT := comparable61
  have mR := methodComparable
  have eE := eql61 e
  go_enter Tryz.func75, Tryz.ntmps75
  go_wp2
  refine wp_loop_rounds 1 ?_
  rw [rounds_succ]
  go_wp2
  go_ret
  exact ⟨rfl, rfl⟩

theorem of_c (w : World) (c : Int) (hc : (c == 0) = false) : Calls Tryz.prog 76 #[.int .i64 c] w fun x w' => x = .returned (.iface 82 (.agg #[.int .i64 c])) ∧ w = w' := by
  go_enter Tryz.func76, Tryz.ntmps76
  go_wp2
  go_ret
  exact ⟨rfl, rfl⟩
/-- What a check's failing leaves. -/
def errV (b : Bool) (c : Int) : Value := if b = true then .nilIface else .iface 82 (.agg #[.int .i64 c])
theorem unless_c (w : World) (b : Bool) (c : Int) : Calls Tryz.prog 52 #[.bool b, .int .i64 c] w fun x w' => x = .returned (errV b c) ∧ w = w' := by
  cases b
  all_goals
    go_enter Tryz.func52, Tryz.ntmps52
    go_wp2
    go_ret
    exact ⟨rfl, rfl⟩
set_option maxRecDepth 100000 in
set_option maxHeartbeats 4000000 in
theorem no_c (w : World) (c : Int) (hg : w.cell? ⟨0, 0, none⟩ = some (.iface 144 (.agg #[.pointer (some ⟨7, 47, none⟩)]))) :
    Calls Tryz.prog 26 #[.iface 82 (.agg #[.int .i64 c])] w fun x w' => x = .returned (.int .i64 c) ∧ Below w.heap.size w w' := by
  have hg2 : (w.alloc (.cells #[.int .i64 0] 82)).cell? ⟨0, 0, none⟩ = some (.iface 144 (.agg #[.pointer (some ⟨7, 47, none⟩)])) := keep_alloc _ hg
  have HA := Lib.hid (as_hit c ⟨w.heap.size, 0, none⟩ (.int .i64 0) (w.alloc (.cells #[.int .i64 0] 82)) hg2 (by go_simp) (by go_simp))
  clear hg2 hg
  go_enter Tryz.func26, Tryz.ntmps26
  go_wp2_with fail
  refine HA.out.mono ?_
  rintro x w1 ⟨rfl, rfl⟩
  go_wp2
  go_ret
  exact ⟨rfl, bal (bal (bal (bal (below_alloc _ _) _) _) _) _⟩
end Go.Proofs.YtikpmkidfppknaaGreatDoor

/- errors.Is of two faults that differ. -/
namespace Go.Proofs.YtikpmkidfppknaaGreatDoor
open Go.RowKit Go.Extern.Stop Go.Stop Go.Extern
theorem eql61_ne (e d : Int) (hne : (e == d) = false) (w : World) : (binOp .eql 47 (.iface 82 (.agg #[.int .i64 e])) (.iface 82 (.agg #[.int .i64 d]))).run Tryz.prog w = .ok (.bool false) w := by
  obtain ⟨i, hi, hcmp⟩ := Option.map_eq_some_iff.1 (show (Tryz.prog.info? 82).map (·.comparable) = some true by kernel_rfl)
  have hp : ∀ (x : Int) W, (part 26 #[.int .i64 x] 0).run Tryz.prog W = .ok (.int .i64 x) W := fun _ _ => by kernel_rfl
  have hs : ∀ n : Nat, (Op.equalIn (n + 2) 82 (.agg #[.int .i64 e]) (.agg #[.int .i64 d])).run Tryz.prog w = .ok false w := fun n => by
    rw [run_equalIn_struct w (n + 1) 82 _ _ (by simp [Program.fieldsOf, Tryz.underlying82]) (by kernel_rfl)]
    simp [Program.fieldsOf, Tryz.underlying82, Op.eqFields, hp, Op.equalIn, run_underlying Tryz.underlying26, hne]
  have h : ∀ n : Nat, (Op.equalIn (n + 3) 47 (.iface 82 (.agg #[.int .i64 e])) (.iface 82 (.agg #[.int .i64 d]))).run Tryz.prog w = .ok false w := fun n => by
    rw [Op.equalIn]
    simp [run_underlying Tryz.underlying47, typeInfo, hi, hcmp, hs]
  simp only [binOp]
  simp [Op.equal, Op.maxDepth, h 9997]
set_option maxRecDepth 100000 in
set_option maxHeartbeats 4000000 in
/-- errors.Is(x, y), x and y faults that differ. -/
theorem is_diff (e d : Int) (hne : (e == d) = false) (w : World) :
    Calls Tryz.prog 75 #[.iface 82 (.agg #[.int .i64 e]), .iface 82 (.agg #[.int .i64 d])] w fun x w' => x = .returned (.bool false) ∧ w = w' := by
  have h8 := @run_callFunc_extern Tryz.prog 91 _ ReflectliteType.typeOf Tryz.func91 (by kernel_rfl) (by kernel_rfl) (by kernel_rfl) (by kernel_rfl)
  have h32 := @run_callFunc_extern Tryz.prog 148 _ (ReflectliteType.method fun t => do Rtype.noPackHeld "Comparable" t; pure (.bool (← typeInfo t).comparable)) Tryz.func148 (by kernel_rfl) (by kernel_rfl) (by kernel_rfl) (by kernel_rfl)
  have tT := typeOf61
  have cT := comparable61
  have mR := methodComparable
  have eE := eql61_ne e d hne
  have a1 := fun xT v W => run_typeAssert_lacksB (P := Tryz.prog) (t := 82) (asserted := 172) (z := .nilIface) Tryz.underlying172 (by kernel_rfl) (by kernel_rfl) v xT W
  have a2 := fun xT v W => run_typeAssert_lacksB (P := Tryz.prog) (t := 82) (asserted := 151) (z := .nilIface) Tryz.underlying151 (by kernel_rfl) (by kernel_rfl) v xT W
  have a3 := fun xT v W => run_typeAssert_lacksB (P := Tryz.prog) (t := 82) (asserted := 152) (z := .nilIface) Tryz.underlying152 (by kernel_rfl) (by kernel_rfl) v xT W
  go_enter Tryz.func75, Tryz.ntmps75
  go_wp2
  refine wp_loop_rounds 1 ?_
  rw [rounds_succ]
  go_wp2
  go_ret
  exact ⟨rfl, rfl⟩
end Go.Proofs.YtikpmkidfppknaaGreatDoor

/- fault.First over checks of any kind, by their contracts (layer 3 has it as its text S). -/
namespace Go.Proofs.YtikpmkidfppknaaGreatDoor
open Go.RowKit Go.Shelf
attribute [local go_sem] Oper.semAt_some

/-- The first of k errors from the i-th on. -/
def firstE (er : Nat → Value) (i : Nat) : Nat → Value
  | 0 => .nilIface
  | k + 1 => match er i with
    | .nilIface => firstE er (i + 1) k
    | v => v
theorem firstE_nil {er : Nat → Value} {i k : Nat} (h : er i = .nilIface) : firstE er i (k + 1) = firstE er (i + 1) k := by simp [firstE, h]
theorem firstE_err {er : Nat → Value} {i k : Nat} {t : TypeId} {v : Value} (h : er i = .iface t v) : firstE er i (k + 1) = .iface t v := by simp [firstE, h]
set_option maxRecDepth 100000 in
set_option maxHeartbeats 4000000 in
theorem faultFirst_c (n : Nat) (hn : n ≤ 1000) (b : Nat) (f : Nat → Nat) (rc cp : Nat → Array Value) (er : Nat → Value) (w : World)
    (hc : ∀ i, i < n → w.cell? ⟨b, i, none⟩ = some (.func (.func (f i)) (rc i) (cp i)))
    (HC : ∀ i, i < n → (∀ j, j < i → er j = .nilIface) → ∀ W, Below w.heap.size w W → Calls Tryz.prog (f i) (rc i ++ cp i) W fun x w' => x = .returned (er i) ∧ Below W.heap.size W w')
    (eg : ∀ i, i < n → ∀ args W, (callFunc (f i) args).run Tryz.prog W = .ok (.enter (f i) args) W)
    (her : ∀ i, i < n → er i = .nilIface ∨ ∃ t v, er i = .iface t v) :
    Calls Tryz.prog 22 #[.slice (some ⟨b, 0, none⟩) n n] w fun x w' => x = .returned (firstE er 0 n) ∧ Below w.heap.size w w' := by
  have HCC := Lib.hid HC
  have HCL := Lib.hid hc
  have HER := Lib.hid her
  have EG := Lib.hid eg
  clear HC hc her eg
  go_enter Tryz.func22, Tryz.ntmps22
  go_wp2
  go_loopw [8] (fun i wr => ∃ k : Nat, k ≤ n ∧ i = .int .i64 k ∧ Hid (∀ j, j < k → er j = .nilIface) ∧ Hid (firstE er k (n - k) = firstE er 0 n) ∧ Hid (Below w.heap.size w wr)) (fun i _ => n - (intOf i).toNat)
  case atStart => exact ⟨0, Nat.zero_le _, rfl, Lib.hid (fun _ h => absurd h (by omega)), Lib.hid rfl, Lib.hid (Below.refl _ _)⟩
  case round =>
    obtain ⟨k, hk, rfl, hj, hf, hb⟩ := hrel
    by_cases hlt : k < n
    · have hlt' : (k : Int) < (n : Int) := by omega
      have hce := (hb.out.cell (p := ⟨b, k, none⟩) (blt (HCL.out k hlt))).trans (HCL.out k hlt)
      have ek := EG.out k hlt
      have HK := Lib.hid (HCC.out k hlt hj.out)
      rcases HER.out k hlt with he | ⟨t, v, he⟩
      · rw [he] at HK
        have hj2 := Lib.hid (show ∀ j, j < k + 1 → er j = .nilIface from fun j h => by rcases Nat.lt_succ_iff_lt_or_eq.1 h with h | rfl; exact hj.out j h; exact he)
        have hf2 := Lib.hid (show firstE er (k + 1) (n - (k + 1)) = firstE er 0 n by rw [← hf.out, show n - k = (n - (k + 1)) + 1 by omega, firstE_nil he])
        clear he
        go_wp2_with fail
        refine (HK.out _ hb.out).mono ?_; rintro e w1 ⟨rfl, hb1⟩
        have HB := Lib.hid (btr hb.out hb1)
        clear hb1 ek hce
        go_wp2
        go_roundw
        case rel => exact ⟨k + 1, by omega, by go_num, hj2, hf2, HB⟩
        case measure => simp [intOf]; omega
      · rw [he] at HK
        have hf2 : firstE er 0 n = .iface t v := by rw [← hf.out, show n - k = (n - (k + 1)) + 1 by omega, firstE_err he]
        clear he
        go_wp2_with fail
        refine (HK.out _ hb.out).mono ?_; rintro e w1 ⟨rfl, hb1⟩
        have HB := Lib.hid (btr hb.out hb1)
        clear hb1 ek hce
        go_wp2
        go_ret
        exact ⟨by first | rfl | (rw [hf2]; rfl), HB.out⟩
    · have hge : ¬ (k : Int) < (n : Int) := by omega
      have hf2 : firstE er 0 n = .nilIface := by rw [← hf.out, show n - k = 0 by omega]; rfl
      go_wp2
      go_ret
      exact ⟨by first | rfl | (rw [hf2]; rfl), hb.out⟩
end Go.Proofs.YtikpmkidfppknaaGreatDoor

/- Layer 4 as plain functions: digits (bytes as natural numbers below 256). -/
namespace Go.Proofs.YtikpmkidfppknaaGreatDoor

/-- What a digit is worth. -/
def digN (c : Nat) : Option Nat := if 48 ≤ c ∧ c ≤ 57 then some (c - 48) else if 97 ≤ c ∧ c ≤ 102 then some (c - 87) else none
/-- The digit of a worth below 16. -/
def digC (n : Nat) : Nat := if n < 10 then n + 48 else n + 87
def hexL (l : List Nat) : List Nat := l.flatMap fun c => [digC (c / 16), digC (c % 16)]
/-- What digits tell; nothing, where they tell nothing. -/
def unhexL : List Nat → Option (List Nat)
  | [] => some []
  | [_] => none
  | a :: b :: r => match digN a, digN b, unhexL r with
    | some x, some y, some l => some ((16 * x + y) :: l)
    | _, _, _ => none

theorem digN_digC {n : Nat} (h : n < 16) : digN (digC n) = some n := by
  unfold digC
  split
  · unfold digN; rw [if_pos (by omega), show n + 48 - 48 = n by omega]
  · unfold digN; rw [if_neg (by omega), if_pos (by omega), show n + 87 - 87 = n by omega]
theorem digC_digN {c n : Nat} (h : digN c = some n) : digC n = c ∧ n < 16 := by
  unfold digN at h
  split at h
  · cases h; unfold digC; split <;> omega
  · split at h
    · cases h; unfold digC; split <;> omega
    · cases h
theorem hexL_nil : hexL [] = [] := rfl
theorem hexL_cons (a : Nat) (l : List Nat) : hexL (a :: l) = digC (a / 16) :: digC (a % 16) :: hexL l := rfl
theorem hexL_append (l m : List Nat) : hexL (l ++ m) = hexL l ++ hexL m := List.flatMap_append
theorem hexL_length (l : List Nat) : (hexL l).length = 2 * l.length := by
  induction l with
  | nil => rfl
  | cons a l ih => rw [hexL_cons, List.length_cons, List.length_cons, List.length_cons, ih]; omega
theorem unhexL_hexL (l : List Nat) (h : ∀ c ∈ l, c < 256) : unhexL (hexL l) = some l := by
  induction l with
  | nil => rfl
  | cons a l ih =>
    have ha := h a (List.mem_cons_self ..)
    rw [hexL_cons, unhexL, digN_digC (by omega), digN_digC (by omega), ih fun c hc => h c (List.mem_cons_of_mem _ hc)]
    show some ((16 * (a / 16) + a % 16) :: l) = _
    congr 2; omega
theorem hexL_unhexL : ∀ (l v : List Nat), unhexL l = some v → hexL v = l ∧ l.length = 2 * v.length ∧ ∀ c ∈ v, c < 256
  | [], v, h => by cases h; exact ⟨rfl, rfl, fun c hc => by cases hc⟩
  | [_], v, h => by cases h
  | a :: b :: r, v, h => by
    rw [unhexL] at h
    cases ha : digN a with
    | none => rw [ha] at h; cases h
    | some x => cases hb : digN b with
      | none => rw [ha, hb] at h; cases h
      | some y => cases hr : unhexL r with
        | none => rw [ha, hb, hr] at h; cases h
        | some m =>
          rw [ha, hb, hr] at h; cases h
          obtain ⟨h1, h2⟩ := digC_digN ha
          obtain ⟨h3, h4⟩ := digC_digN hb
          obtain ⟨h5, h6, h7⟩ := hexL_unhexL r m hr
          refine ⟨?_, ?_, fun c hc => ?_⟩
          · rw [hexL_cons, h5, show (16 * x + y) / 16 = x by omega, show (16 * x + y) % 16 = y by omega, h1, h3]
          · rw [List.length_cons, List.length_cons, List.length_cons, h6]; omega
          · rcases List.mem_cons.1 hc with rfl | hc
            · omega
            · exact h7 c hc
/-- Two parts, the first of an even number. -/
theorem unhexL_append : ∀ (l m : List Nat), l.length % 2 = 0 → unhexL (l ++ m) = match unhexL l, unhexL m with
    | some x, some y => some (x ++ y)
    | _, _ => none
  | [], m, _ => by rw [List.nil_append, unhexL]; cases unhexL m <;> rfl
  | [_], m, h => by simp at h
  | a :: b :: r, m, h => by
    rw [List.cons_append, List.cons_append, unhexL, unhexL, unhexL_append r m (by simpa [Nat.add_assoc] using h)]
    cases digN a <;> cases digN b <;> cases unhexL r <;> cases unhexL m <;> rfl
theorem unhexL_odd : ∀ (l : List Nat), l.length % 2 = 1 → unhexL l = none
  | [], h => by simp at h
  | [_], _ => rfl
  | a :: b :: r, h => by
    rw [unhexL, unhexL_odd r (by simpa [Nat.add_assoc] using h)]
    cases digN a <;> cases digN b <;> rfl
/-- The program's way: digit by digit, till one is none. -/
def valsL : List Nat → Option (List Nat)
  | [] => some []
  | c :: r => match digN c, valsL r with
    | some x, some l => some (x :: l)
    | _, _ => none
/-- Worths, two and two. -/
def pairL : List Nat → List Nat
  | a :: b :: r => (16 * a + b) :: pairL r
  | _ => []
theorem unhexL_vals : ∀ (l : List Nat), l.length % 2 = 0 → unhexL l = (valsL l).map pairL
  | [], _ => rfl
  | [_], h => by simp at h
  | a :: b :: r, h => by
    rw [unhexL, unhexL_vals r (by simpa [Nat.add_assoc] using h), valsL, valsL]
    cases digN a <;> cases digN b <;> cases valsL r <;> rfl
end Go.Proofs.YtikpmkidfppknaaGreatDoor

/- Layer 4 as plain functions: SHA-256 over words of 32 bits. -/
namespace Go.Proofs.YtikpmkidfppknaaGreatDoor

abbrev Wd := BitVec 32
structure Sta where
  (a b c d e f g h : Wd)
deriving DecidableEq
def rootsL : List Wd := [0x428a2f98, 0x71374491, 0xb5c0fbcf, 0xe9b5dba5, 0x3956c25b, 0x59f111f1, 0x923f82a4, 0xab1c5ed5, 0xd807aa98, 0x12835b01, 0x243185be, 0x550c7dc3, 0x72be5d74, 0x80deb1fe, 0x9bdc06a7, 0xc19bf174, 0xe49b69c1, 0xefbe4786, 0x0fc19dc6, 0x240ca1cc, 0x2de92c6f, 0x4a7484aa, 0x5cb0a9dc, 0x76f988da, 0x983e5152, 0xa831c66d, 0xb00327c8, 0xbf597fc7, 0xc6e00bf3, 0xd5a79147, 0x06ca6351, 0x14292967, 0x27b70a85, 0x2e1b2138, 0x4d2c6dfc, 0x53380d13, 0x650a7354, 0x766a0abb, 0x81c2c92e, 0x92722c85, 0xa2bfe8a1, 0xa81a664b, 0xc24b8b70, 0xc76c51a3, 0xd192e819, 0xd6990624, 0xf40e3585, 0x106aa070, 0x19a4c116, 0x1e376c08, 0x2748774c, 0x34b0bcb5, 0x391c0cb3, 0x4ed8aa4a, 0x5b9cca4f, 0x682e6ff3, 0x748f82ee, 0x78a5636f, 0x84c87814, 0x8cc70208, 0x90befffa, 0xa4506ceb, 0xbef9a3f7, 0xc67178f2]
def beg : Sta := ⟨0x6a09e667, 0xbb67ae85, 0x3c6ef372, 0xa54ff53a, 0x510e527f, 0x9b05688c, 0x1f83d9ab, 0x5be0cd19⟩
/-- Rotations to the right, put together by exclusive or. -/
def spunL (x : Wd) (l : List Nat) : Wd := l.foldl (fun o n => o ^^^ x.rotateRight n) 0
def nearW (x : Wd) : Wd := spunL x [7, 18] ^^^ x >>> 3
def farW (x : Wd) : Wd := spunL x [17, 19] ^^^ x >>> 10
def firstW (x : Wd) : Wd := spunL x [2, 13, 22]
def fifthW (x : Wd) : Wd := spunL x [6, 11, 25]
def totalL (l : List Wd) : Wd := l.foldl (· + ·) 0
/-- The number of four bytes. -/
def wordL : List Nat → Wd
  | [p, q, r, s] => BitVec.ofNat 32 p <<< 24 ||| BitVec.ofNat 32 q <<< 16 ||| BitVec.ofNat 32 r <<< 8 ||| BitVec.ofNat 32 s
  | _ => 0
/-- The word at a place of a block. -/
def wordAt (b : List Nat) (i : Nat) : Wd := wordL ((b.drop (4 * i)).take 4)
/-- The next word of a schedule. -/
def nextW (b : List Nat) (ws : List Wd) : Wd :=
  if ws.length < 16 then wordAt b ws.length
  else totalL [ws.getD (ws.length - 16) 0, nearW (ws.getD (ws.length - 15) 0), ws.getD (ws.length - 7) 0, farW (ws.getD (ws.length - 2) 0)]
/-- A schedule's first n words. -/
def schedL (b : List Nat) : Nat → List Wd
  | 0 => []
  | n + 1 => let ws := schedL b n; ws ++ [nextW b ws]
def roundS (s : Sta) (k w : Wd) : Sta :=
  let t := totalL [s.h, fifthW s.e, (s.e &&& s.f) ^^^ (~~~s.e &&& s.g), k, w]
  let u := totalL [firstW s.a, ((s.a &&& s.b) ^^^ (s.a &&& s.c)) ^^^ (s.b &&& s.c)]
  ⟨t + u, s.a, s.b, s.c, s.d + t, s.e, s.f, s.g⟩
def roundsS (s : Sta) (l : List (Wd × Wd)) : Sta := l.foldl (fun s p => roundS s p.1 p.2) s
def joinS (s o : Sta) : Sta := ⟨s.a + o.a, s.b + o.b, s.c + o.c, s.d + o.d, s.e + o.e, s.f + o.f, s.g + o.g, s.h + o.h⟩
/-- A block mixed into a state. -/
def blockS (s : Sta) (b : List Nat) : Sta := joinS s (roundsS s (rootsL.zip (schedL b 64)))
/-- A padded text's blocks, n of them. -/
def mixS (s : Sta) : Nat → List Nat → Sta
  | 0, _ => s
  | n + 1, l => mixS (blockS s (l.take 64)) n (l.drop 64)
/-- The last eight bytes of a padding. -/
def lenL (n : Nat) : List Nat := (List.range 8).map fun i => (8 * n) / 256 ^ (7 - i) % 256
/-- How many bytes 0 a padding has before these. -/
def zerosN (n : Nat) : Nat := (119 - n % 64) % 64
def padL (l : List Nat) : List Nat := l ++ 128 :: (List.replicate (zerosN l.length) 0 ++ lenL l.length)
def wordBs (x : Wd) : List Nat := [x.toNat / 16777216, x.toNat / 65536 % 256, x.toNat / 256 % 256, x.toNat % 256]
def textS (s : Sta) : List Nat := wordBs s.a ++ wordBs s.b ++ wordBs s.c ++ wordBs s.d ++ wordBs s.e ++ wordBs s.f ++ wordBs s.g ++ wordBs s.h
def sumL (l : List Nat) : List Nat := textS (mixS beg ((padL l).length / 64) (padL l))

theorem padL_length (l : List Nat) : (padL l).length = l.length + 9 + zerosN l.length := by
  simp only [padL, lenL, List.length_append, List.length_cons, List.length_replicate, List.length_map, List.length_range]; omega
theorem padL_mod (l : List Nat) : (padL l).length % 64 = 0 := by rw [padL_length]; unfold zerosN; omega
theorem textS_length (s : Sta) : (textS s).length = 32 := rfl
theorem schedL_length (b : List Nat) (n : Nat) : (schedL b n).length = n := by
  induction n with
  | zero => rfl
  | succ n ih => show (schedL b n ++ [_]).length = _; rw [List.length_append, ih]; rfl
/-- Two known sums. -/
theorem sumL_abc : hexL (sumL [97, 98, 99]) = "ba7816bf8f01cfea414140de5dae2223b00361a396177a9cb410ff61f20015ad".toList.map Char.toNat := by decide +kernel
theorem sumL_nil : hexL (sumL []) = "e3b0c44298fc1c149afbf4c8996fb92427ae41e4649b934ca495991b7852b855".toList.map Char.toNat := by decide +kernel
end Go.Proofs.YtikpmkidfppknaaGreatDoor

/- Layer 4: the padding in its two parts; blocks one behind the other; the length's bytes. -/
namespace Go.Proofs.YtikpmkidfppknaaGreatDoor

/-- How many bytes stand in blocks that are all the text's own. -/
def wholeN (n : Nat) : Nat := n - n % 64
/-- What stands behind these. -/
def endL (l : List Nat) : List Nat := l.drop (wholeN l.length) ++ 128 :: (List.replicate (zerosN l.length) 0 ++ lenL l.length)
theorem padL_split (l : List Nat) : padL l = l.take (wholeN l.length) ++ endL l := by
  unfold padL endL
  rw [← List.append_assoc, List.take_append_drop]
theorem lenL_length (n : Nat) : (lenL n).length = 8 := by simp only [lenL, List.length_map, List.length_range]
theorem endL_length (l : List Nat) : (endL l).length = if 64 < l.length % 64 + 9 then 128 else 64 := by
  simp only [endL, List.length_append, List.length_cons, List.length_replicate, List.length_drop, lenL_length, wholeN, zerosN]
  split <;> omega
theorem wholeN_mod (n : Nat) : wholeN n % 64 = 0 := by unfold wholeN; omega
theorem wholeN_le (n : Nat) : wholeN n ≤ n := by unfold wholeN; omega
theorem mixS_append : ∀ (n m : Nat) (s : Sta) (p q : List Nat), p.length = 64 * n → mixS s (n + m) (p ++ q) = mixS (mixS s n p) m q
  | 0, m, s, p, q, h => by
    have : p = [] := List.length_eq_zero_iff.1 (by omega)
    subst this
    rw [Nat.zero_add, List.nil_append]; rfl
  | n + 1, m, s, p, q, h => by
    rw [show n + 1 + m = (n + m) + 1 by omega]
    rw [mixS, mixS, List.take_append_of_le_length (by omega), List.drop_append_of_le_length (by omega)]
    exact mixS_append n m _ _ q (by rw [List.length_drop]; omega)
/-- The sum, as the program goes: the text's own blocks, then the ending's. -/
theorem sumL_parts (l : List Nat) : sumL l = textS (mixS (mixS beg (wholeN l.length / 64) (l.take (wholeN l.length))) ((endL l).length / 64) (endL l)) := by
  have h1 := wholeN_mod l.length
  have h2 := wholeN_le l.length
  have h3 : (l.take (wholeN l.length)).length = wholeN l.length := by rw [List.length_take]; omega
  unfold sumL
  rw [padL_split l, List.length_append, h3, show (wholeN l.length + (endL l).length) / 64 = wholeN l.length / 64 + (endL l).length / 64 by omega,
    mixS_append _ _ _ _ _ (by omega)]
/-- The length's bytes, as the document's program lays them. -/
def lenR : Nat → Nat → List Nat → List Nat
  | 0, _, t => t
  | k + 1, n, t => lenR k (n / 256) (n % 256 :: t)
theorem lenR_lenL (n : Nat) : lenR 8 (8 * n) [] = lenL n := by
  have e : lenL n = [(8 * n) / 256 ^ 7 % 256, (8 * n) / 256 ^ 6 % 256, (8 * n) / 256 ^ 5 % 256, (8 * n) / 256 ^ 4 % 256, (8 * n) / 256 ^ 3 % 256, (8 * n) / 256 ^ 2 % 256, (8 * n) / 256 ^ 1 % 256, (8 * n) / 256 ^ 0 % 256] := rfl
  rw [e]
  simp only [lenR, Nat.div_div_eq_div_mul, Nat.reduceMul, Nat.reducePow, Nat.div_one]
theorem lenL_folds (n : Nat) (h : n < 65536) : (lenL n).foldl (fun b x => 256 * b + x) 0 = 8 * n := by
  have e : lenL n = [(8 * n) / 256 ^ 7 % 256, (8 * n) / 256 ^ 6 % 256, (8 * n) / 256 ^ 5 % 256, (8 * n) / 256 ^ 4 % 256, (8 * n) / 256 ^ 3 % 256, (8 * n) / 256 ^ 2 % 256, (8 * n) / 256 ^ 1 % 256, (8 * n) / 256 ^ 0 % 256] := rfl
  rw [e]
  simp only [List.foldl]
  omega
/-- What stands in a padded text: the text, 80, bytes 0, the length. -/
theorem padL_zero (l : List Nat) (i : Nat) (h1 : l.length < i) (h2 : i + 8 < (padL l).length) : (padL l)[i]? = some 0 := by
  rw [padL_length] at h2
  unfold padL
  rw [List.getElem?_append_right (by omega)]
  obtain ⟨j, hj⟩ : ∃ j, i - l.length = j + 1 := ⟨i - l.length - 1, by omega⟩
  rw [hj, List.getElem?_cons_succ, List.getElem?_append_left (by rw [List.length_replicate]; omega), List.getElem?_replicate, if_pos (by omega)]
theorem padL_mark (l : List Nat) : (padL l)[l.length]? = some 128 := by
  unfold padL
  rw [List.getElem?_append_right (Nat.le_refl _), Nat.sub_self]; rfl
theorem padL_take (l : List Nat) : (padL l).take l.length = l := by
  unfold padL
  rw [List.take_append_of_le_length (Nat.le_refl _), List.take_length]
theorem padL_last (l : List Nat) : (padL l).drop ((padL l).length - 8) = lenL l.length := by
  rw [padL_length]
  have e : padL l = (l ++ 128 :: List.replicate (zerosN l.length) 0) ++ lenL l.length := by unfold padL; rw [List.append_assoc]; rfl
  rw [e, List.drop_append_of_le_length (by simp only [List.length_append, List.length_cons, List.length_replicate]; omega), List.drop_of_length_le (by simp only [List.length_append, List.length_cons, List.length_replicate]; omega), List.nil_append]
end Go.Proofs.YtikpmkidfppknaaGreatDoor

/- Words of 32 bits as the walk shows them. -/
namespace Go.Proofs.YtikpmkidfppknaaGreatDoor

theorem w_xor (x y : Wd) : bits .xor .u32 (x.toNat : Int) (y.toNat : Int) = ((x ^^^ y).toNat : Int) := by
  rw [u32_xor_nat _ _ x.isLt y.isLt, BitVec.toNat_xor]
theorem w_and (x y : Wd) : bits .and .u32 (x.toNat : Int) (y.toNat : Int) = ((x &&& y).toNat : Int) := by
  rw [u32_and_nat _ _ x.isLt y.isLt, BitVec.toNat_and]
theorem w_or (x y : Wd) : bits .or .u32 (x.toNat : Int) (y.toNat : Int) = ((x ||| y).toNat : Int) := by
  rw [u32_or_nat _ _ x.isLt y.isLt, BitVec.toNat_or]
theorem w_not (x : Wd) : bits .xor .u32 4294967295 (x.toNat : Int) = ((~~~x).toNat : Int) := by
  have h := w_xor (BitVec.allOnes 32) x
  rw [show ((BitVec.allOnes 32).toNat : Int) = 4294967295 from rfl, BitVec.allOnes_xor] at h
  exact h
theorem w_add (x y : Wd) : IntKind.u32.wrap ((x.toNat : Int) + (y.toNat : Int)) = ((x + y).toNat : Int) := by
  rw [IntKind.wrap_u32', BitVec.toNat_add]; omega
theorem w_shr (x : Wd) (n : Nat) : (x.toNat : Int).fdiv (2 ^ n) = ((x >>> n).toNat : Int) := by
  rw [BitVec.toNat_ushiftRight, Nat.shiftRight_eq_div_pow, Int.fdiv_eq_ediv_of_nonneg _ (Int.le_of_lt (Int.pow_pos (by decide)))]
  norm_cast
theorem w_shr' (x : Wd) (n : Nat) : (x.toNat : Int) / (2 ^ n) = ((x >>> n).toNat : Int) := by
  rw [BitVec.toNat_ushiftRight, Nat.shiftRight_eq_div_pow]
  norm_cast
theorem w_shl (x : Wd) (n : Nat) : IntKind.u32.wrap ((x.toNat : Int) * 2 ^ n) = ((x <<< n).toNat : Int) := by
  rw [IntKind.wrap_u32', BitVec.toNat_shiftLeft, Nat.shiftLeft_eq, show (2 : Nat) ^ 32 = 4294967296 from rfl]
  have e : (x.toNat : Int) * 2 ^ n = ((x.toNat * 2 ^ n : Nat) : Int) := by norm_cast
  rw [e]
  omega
theorem w_rot (x : Wd) (n : Nat) (h : n < 32) : x >>> n ||| x <<< (32 - n) = x.rotateRight n := by
  rw [BitVec.rotateRight_def, Nat.mod_eq_of_lt h]
theorem w_byte (n : Nat) (h : n < 4294967296) : (n : Int) = ((BitVec.ofNat 32 n).toNat : Int) := by
  rw [BitVec.toNat_ofNat, Nat.mod_eq_of_lt h]
/-- A number within the word's bounds is a word. -/
theorem w_ex (n : Int) (h0 : 0 ≤ n) (h1 : n < 4294967296) : ∃ x : Wd, n = (x.toNat : Int) := ⟨BitVec.ofNat 32 n.toNat, by rw [← w_byte _ (by omega)]; omega⟩
end Go.Proofs.YtikpmkidfppknaaGreatDoor

/- cut, whole, RotateLeft32: their contracts. -/
namespace Go.Proofs.YtikpmkidfppknaaGreatDoor
open Go.RowKit Go.Shelf
attribute [local go_sem] Oper.semAt_some

set_option maxRecDepth 100000 in
theorem whole_c (s : ByteArray) (_h : s.size ≤ 100000) (w : World) : Calls Tryz.prog 96 #[.string s] w fun x w' => x = .returned (.int .i64 (wholeN s.size : Int)) ∧ Below w.heap.size w w' := by
  go_enter Tryz.func96, Tryz.ntmps96
  go_wp2
  go_ret
  refine ⟨?_, Below.refl _ _⟩
  rw [show ((wholeN s.size : Nat) : Int) = (s.size : Int) - (s.size : Int) % 64 by unfold wholeN; omega]
  rfl
theorem w_shl_run (x : Wd) (k : IntKind) (m : Nat) (hm : m ≤ 32) (P : Program) (w : World) : (Op.shift .shl .u32 (x.toNat : Int) k (m : Int)).run P w = .ok (.int .u32 ((x <<< m).toNat : Int)) w := by
  unfold Op.shift
  rw [if_neg (by omega), show min (m : Int).toNat IntKind.u32.bits = m by show min (m : Int).toNat 32 = m; omega]
  show Sem.run P (pure (Value.int .u32 (IntKind.u32.wrap ((x.toNat : Int) * 2 ^ m)))) w = _
  rw [w_shl]; rfl
theorem w_shr_run (x : Wd) (k : IntKind) (m : Nat) (hm : m ≤ 32) (P : Program) (w : World) : (Op.shift .shr .u32 (x.toNat : Int) k (m : Int)).run P w = .ok (.int .u32 ((x >>> m).toNat : Int)) w := by
  unfold Op.shift
  rw [if_neg (by omega), show min (m : Int).toNat IntKind.u32.bits = m by show min (m : Int).toNat 32 = m; omega]
  show Sem.run P (pure (Value.int .u32 ((x.toNat : Int).fdiv (2 ^ m)))) w = _
  rw [w_shr]; rfl
theorem and31 (n : Nat) (h0 : 0 < n) (h1 : n < 32) : bits .and .u64 (IntKind.u64.wrap (-(n : Int))) 31 = ((32 - n : Nat) : Int) := by
  have : ∀ m : Fin 32, 0 < m.val → bits .and .u64 (IntKind.u64.wrap (-(m.val : Int))) 31 = ((32 - m.val : Nat) : Int) := by decide +kernel
  exact this ⟨n, h1⟩ h0
set_option maxRecDepth 100000 in
theorem rot_c (x : Wd) (n : Nat) (h0 : 0 < n) (h1 : n < 32) (w : World) : Calls Tryz.prog 118 #[.int .u32 (x.toNat : Int), .int .i64 (-(n : Int))] w fun r w' => r = .returned (.int .u32 ((x.rotateRight n).toNat : Int)) ∧ Below w.heap.size w w' := by
  have E := Lib.hid (and31 n h0 h1)
  have s1 : ∀ W, (Op.shift .shl .u32 (x.toNat : Int) .u64 (bits .and .u64 (IntKind.u64.wrap (-(n : Int))) 31)).run Tryz.prog W = .ok (.int .u32 ((x <<< (32 - n)).toNat : Int)) W := fun W => by
    rw [E.out]; exact w_shl_run x .u64 _ (by omega) _ _
  have hy : ((x <<< (32 - n)).toNat : Int) = ((x <<< (32 - n)).toNat : Int) := rfl
  generalize hz : x <<< (32 - n) = y at s1
  clear hy
  go_enter Tryz.func118, Tryz.ntmps118
  go_wp2
  go_ret
  refine ⟨?_, Below.refl _ _⟩
  show Ending.returned (.int .u32 (bits .or .u32 (y.toNat : Int) ((x.toNat : Int) / 2 ^ min (IntKind.u64.wrap (32 - bits .and .u64 (IntKind.u64.wrap (-(n : Int))) 31)).toNat 32))) = _
  rw [E.out, show (IntKind.u64.wrap (32 - ((32 - n : Nat) : Int))).toNat = n by rw [IntKind.wrap_u64]; omega, show min n 32 = n by omega, w_shr', w_or, ← hz, BitVec.or_comm, w_rot x n h1]
end Go.Proofs.YtikpmkidfppknaaGreatDoor

/- spun. -/
namespace Go.Proofs.YtikpmkidfppknaaGreatDoor
open Go.RowKit Go.Shelf
attribute [local go_sem] Oper.semAt_some
theorem spunL_take (x : Wd) (l : List Nat) (k : Nat) (h : k < l.length) : spunL x (l.take (k + 1)) = spunL x (l.take k) ^^^ x.rotateRight l[k] := by
  unfold spunL
  rw [List.take_add_one, List.getElem?_eq_getElem h, List.foldl_append]
  rfl
set_option maxRecDepth 100000 in
set_option maxHeartbeats 4000000 in
theorem spun_c (x : Wd) (l : List Nat) (b o c : Nat) (w : World) (hc : ∀ (j n : Nat), l[j]? = some n → w.cell? ⟨b, o + j, none⟩ = some (.int .i64 (n : Int))) (hl : ∀ n ∈ l, 0 < n ∧ n < 32) (hn : l.length ≤ 8) : Calls Tryz.prog 110 #[.int .u32 (x.toNat : Int), .slice (some ⟨b, o, none⟩) l.length c] w fun r w' => r = .returned (.int .u32 ((spunL x l).toNat : Int)) ∧ Below w.heap.size w w' := by
  have HC := Lib.hid hc
  have HLL := Lib.hid hl
  clear hc hl
  generalize hL : l.length = L at *
  go_enter Tryz.func110, Tryz.ntmps110
  go_wp2
  go_loopw [5, 10] (fun u i wr => ∃ k : Nat, k ≤ L ∧ i = .int .i64 (k : Int) ∧ u = .int .u32 ((spunL x (l.take k)).toNat : Int) ∧ Below w.heap.size w wr) (fun _ i _ => L - (intOf i).toNat)
  case atStart => exact ⟨0, by omega, rfl, rfl, Below.refl _ _⟩
  case round =>
    obtain ⟨k, hk, rfl, rfl, hbl⟩ := hrel
    by_cases hlt : k < L
    · have hkl : k < l.length := by omega
      have hc0 := HC.out k l[k] (List.getElem?_eq_getElem hkl)
      have hcell := (hbl.cell (p := ⟨b, o + k, none⟩) (blt hc0)).trans hc0
      clear hc0
      obtain ⟨h0, h1⟩ := HLL.out _ (List.getElem_mem hkl)
      have HT := Lib.hid (spunL_take x l k hkl)
      have hlt' : (k : Int) < (L : Int) := by omega
      have HBl := Lib.hid hbl
      clear hbl
      generalize l[k] = n at *
      have HR := Lib.hid (fun W => rot_c x n h0 h1 W)
      generalize spunL x (List.take k l) = y at *
      generalize x.rotateRight n = z at *
      go_wp2_with (refine (HR.out _).mono ?_; rintro e w1 ⟨rfl, hb⟩)
      have HB1 := Lib.hid (btr HBl.out hb)
      clear hb
      go_roundw
      case rel => exact ⟨k + 1, by omega, by go_num, by rw [HT.out, ← w_xor], HB1.out⟩
      case measure => simp [intOf]; omega
    · have hlt' : ¬ (k : Int) < (L : Int) := by omega
      have hk2 : List.take k l = l := List.take_of_length_le (by omega)
      rw [hk2]
      go_wp2
      go_ret
      exact ⟨rfl, hbl⟩
end Go.Proofs.YtikpmkidfppknaaGreatDoor

/- total. -/
namespace Go.Proofs.YtikpmkidfppknaaGreatDoor
open Go.RowKit Go.Shelf
attribute [local go_sem] Oper.semAt_some
theorem totalL_take (l : List Wd) (k : Nat) (h : k < l.length) : totalL (l.take (k + 1)) = totalL (l.take k) + l[k] := by
  unfold totalL
  rw [List.take_add_one, List.getElem?_eq_getElem h, List.foldl_append]
  rfl
set_option maxRecDepth 100000 in
set_option maxHeartbeats 4000000 in
theorem total_c (l : List Wd) (b o c : Nat) (w : World) (hc : ∀ (j : Nat) (x : Wd), l[j]? = some x → w.cell? ⟨b, o + j, none⟩ = some (.int .u32 (x.toNat : Int))) (hn : l.length ≤ 8) : Calls Tryz.prog 100 #[.slice (some ⟨b, o, none⟩) l.length c] w fun r w' => r = .returned (.int .u32 ((totalL l).toNat : Int)) ∧ Below w.heap.size w w' := by
  have HC := Lib.hid hc
  clear hc
  generalize hL : l.length = L at *
  go_enter Tryz.func100, Tryz.ntmps100
  go_wp2
  go_loopw [3, 8] (fun u i wr => ∃ k : Nat, k ≤ L ∧ i = .int .i64 (k : Int) ∧ u = .int .u32 ((totalL (l.take k)).toNat : Int) ∧ Below w.heap.size w wr) (fun _ i _ => L - (intOf i).toNat)
  case atStart => exact ⟨0, by omega, rfl, rfl, Below.refl _ _⟩
  case round =>
    obtain ⟨k, hk, rfl, rfl, hbl⟩ := hrel
    by_cases hlt : k < L
    · have hkl : k < l.length := by omega
      have hc0 := HC.out k l[k] (List.getElem?_eq_getElem hkl)
      have hcell := (hbl.cell (p := ⟨b, o + k, none⟩) (blt hc0)).trans hc0
      clear hc0
      have HT := Lib.hid (totalL_take l k hkl)
      have hlt' : (k : Int) < (L : Int) := by omega
      have HBl := Lib.hid hbl
      clear hbl
      generalize l[k] = n at *
      generalize totalL (List.take k l) = y at *
      go_wp2
      go_roundw
      case rel => exact ⟨k + 1, by omega, by go_num, by rw [HT.out, ← w_add, IntKind.wrap_u32'], HBl.out⟩
      case measure => simp [intOf]; omega
    · have hlt' : ¬ (k : Int) < (L : Int) := by omega
      have hk2 : List.take k l = l := List.take_of_length_le (by omega)
      rw [hk2]
      go_wp2
      go_ret
      exact ⟨rfl, hbl⟩
end Go.Proofs.YtikpmkidfppknaaGreatDoor

/- near, far, first, fifth. -/
namespace Go.Proofs.YtikpmkidfppknaaGreatDoor
open Go.RowKit Go.Shelf
attribute [local go_sem] Oper.semAt_some
theorem cells2 {t : TypeId} (w : World) (p q : Nat) : ∀ (j n : Nat), [p, q][j]? = some n → (w.alloc (Obj.cells #[Value.int IntKind.i64 (p : Int), Value.int IntKind.i64 (q : Int)] t)).cell? ⟨w.heap.size, 0 + j, none⟩ = some (.int .i64 (n : Int))
  | 0, n, h => by cases h; go_simp
  | 1, n, h => by cases h; go_simp
  | j + 2, n, h => by simp at h
theorem cells3 {t : TypeId} (w : World) (p q r : Nat) : ∀ (j n : Nat), [p, q, r][j]? = some n → (w.alloc (Obj.cells #[Value.int IntKind.i64 (p : Int), Value.int IntKind.i64 (q : Int), Value.int IntKind.i64 (r : Int)] t)).cell? ⟨w.heap.size, 0 + j, none⟩ = some (.int .i64 (n : Int))
  | 0, n, h => by cases h; go_simp
  | 1, n, h => by cases h; go_simp
  | 2, n, h => by cases h; go_simp
  | j + 3, n, h => by simp at h
set_option maxRecDepth 100000 in
set_option maxHeartbeats 4000000 in
theorem first_c (x : Wd) (w : World) : Calls Tryz.prog 102 #[.int .u32 (x.toNat : Int)] w fun r w' => r = .returned (.int .u32 ((firstW x).toNat : Int)) ∧ Below w.heap.size w w' := by
  go_enter Tryz.func102, Tryz.ntmps102
  go_wp2_with fail
  refine (spun_c x [2, 13, 22] w.heap.size 0 3 _ (cells3 w 2 13 22) (by decide) (by decide)).mono ?_; rintro e w1 ⟨rfl, hb⟩
  go_wp2
  go_ret
  exact ⟨rfl, btr (below_alloc w _) hb⟩
set_option maxRecDepth 100000 in
set_option maxHeartbeats 4000000 in
theorem fifth_c (x : Wd) (w : World) : Calls Tryz.prog 101 #[.int .u32 (x.toNat : Int)] w fun r w' => r = .returned (.int .u32 ((fifthW x).toNat : Int)) ∧ Below w.heap.size w w' := by
  go_enter Tryz.func101, Tryz.ntmps101
  go_wp2_with fail
  refine (spun_c x [6, 11, 25] w.heap.size 0 3 _ (cells3 w 6 11 25) (by decide) (by decide)).mono ?_; rintro e w1 ⟨rfl, hb⟩
  go_wp2
  go_ret
  exact ⟨rfl, btr (below_alloc w _) hb⟩
set_option maxRecDepth 100000 in
set_option maxHeartbeats 4000000 in
theorem near_c (x : Wd) (w : World) : Calls Tryz.prog 98 #[.int .u32 (x.toNat : Int)] w fun r w' => r = .returned (.int .u32 ((nearW x).toNat : Int)) ∧ Below w.heap.size w w' := by
  have HS := Lib.hid (spun_c x [7, 18] w.heap.size 0 2 _ (cells2 (t := 3) w 7 18) (by decide) (by decide))
  have HY := Lib.hid (show nearW x = spunL x [7, 18] ^^^ x >>> 3 from rfl)
  generalize spunL x [7, 18] = y at *
  go_enter Tryz.func98, Tryz.ntmps98
  go_wp2_with (refine HS.out.mono ?_; rintro e w1 ⟨rfl, hb⟩)
  go_ret
  refine ⟨?_, btr (below_alloc w _) hb⟩
  have e : (x.toNat : Int) / (8 : Int) = ((x >>> 3).toNat : Int) := by
    rw [BitVec.toNat_ushiftRight, Nat.shiftRight_eq_div_pow, show (2 : Nat) ^ 3 = 8 from rfl]; omega
  show Ending.returned (.int .u32 (bits .xor .u32 (y.toNat : Int) ((x.toNat : Int) / (8 : Int)))) = _
  rw [HY.out, e, w_xor]
set_option maxRecDepth 100000 in
set_option maxHeartbeats 4000000 in
theorem far_c (x : Wd) (w : World) : Calls Tryz.prog 99 #[.int .u32 (x.toNat : Int)] w fun r w' => r = .returned (.int .u32 ((farW x).toNat : Int)) ∧ Below w.heap.size w w' := by
  have HS := Lib.hid (spun_c x [17, 19] w.heap.size 0 2 _ (cells2 (t := 3) w 17 19) (by decide) (by decide))
  have HY := Lib.hid (show farW x = spunL x [17, 19] ^^^ x >>> 10 from rfl)
  generalize spunL x [17, 19] = y at *
  go_enter Tryz.func99, Tryz.ntmps99
  go_wp2_with (refine HS.out.mono ?_; rintro e w1 ⟨rfl, hb⟩)
  go_ret
  refine ⟨?_, btr (below_alloc w _) hb⟩
  have e : (x.toNat : Int) / (1024 : Int) = ((x >>> 10).toNat : Int) := by
    rw [BitVec.toNat_ushiftRight, Nat.shiftRight_eq_div_pow, show (2 : Nat) ^ 10 = 1024 from rfl]; omega
  show Ending.returned (.int .u32 (bits .xor .u32 (y.toNat : Int) ((x.toNat : Int) / (1024 : Int)))) = _
  rw [HY.out, e, w_xor]
end Go.Proofs.YtikpmkidfppknaaGreatDoor

/- A drawn region, an operation at a time (layer 3 has this in its text H). -/
namespace Go.Proofs.YtikpmkidfppknaaGreatDoor
open Go.RowKit Go.Shelf
attribute [local go_sem] Oper.semAt_some

theorem takeH {P : Program} {ops : Array Oper} {Q : Exit → Act → World → Prop} {md : Region.Mode} {S : World → Prop} {i : Nat} {oi : Oper} (d : Option Tmp) {v : Value} {fuel : Nat} {listed : Array Bool} {a : Act} {w : World} (hi : ops[i]? = some oi) (hd : oi.dst = d)
    (hs : Region.noSelect ops = true) (hf : Region.free md ops listed i = true) (hr : (Region.ready md ops listed).contains i = true)
    (hQ : ∀ c a w, Q (.panic c) (a.put d v) w → Q (.panic c) a w) (hy : YieldsIf P ops S oi v a) (hS : S w)
    (h : wpAnyH P md ops Q S fuel (listed.setIfInBounds i true) (a.put d v) w) : wpAnyH P md ops Q S (fuel + 1) listed a w := by
  subst hd
  exact wpAnyH_take hi hs hf hr hQ hy hS h
theorem wpAnyH_narrow {P : Program} {ops : Array Oper} {Q : Exit → Act → World → Prop} {md : Region.Mode} {S S2 : World → Prop} (hs : ∀ w, S2 w → S w) : ∀ (fuel : Nat) (listed : Array Bool) (a : Act) (w : World), wpAnyH P md ops Q S2 fuel listed a w → wpAnyH P md ops Q S fuel listed a w
  | 0, _, _, _, h => h
  | fuel + 1, _, _, _, h => ⟨h.1, fun i hi => wpOp_mono (fun a' w' h' => ⟨hs _ h'.1, wpAnyH_narrow hs fuel _ a' w' h'.2⟩) (h.2 i hi)⟩
end Go.Proofs.YtikpmkidfppknaaGreatDoor

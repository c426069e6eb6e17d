/- A, FrE, EA, EB, EC, Sa, Sb, Sc -/
import Derived.Test.YtgceecfjammnaaaDoorProg
import Derived.WalkKit
import Derived.WalkLawsBesides
import Derived.WalkSpells
import Derived.WalkSmall
import Derived.Outline
import Derived.Deep.DeepFit
import Derived.Lib.Hide
import Derived.BigQuiet
import Derived.Deep.QuietTactic
import Derived.Sort.QuietIn
import Derived.Deep.RegionHeld3
import Derived.IntWalk
import Derived.Laws.StructEq
import Derived.Maps.RangeWalk
import Derived.RangeFuncNested
import Derived.RangeFuncBound
import Derived.RangeFuncCalls
import Derived.RangeFuncLeaves
import Derived.RangeFuncBox
import Derived.Shelf.Abstract
import Derived.Shelf.RegionOpen
import Derived.OwnWalkIn
import Derived.TacticsInMore
import Derived.LoopNIn
import Derived.LoopIn
import Derived.Lib.OthersKept
import Derived.Maps.OwnOps
import Derived.Maps.OwnSet
import Derived.Test.YtgceecfjammnaaaDoorRows
import Derived.ChangeSame
import Derived.ChangeVars
import Derived.JoinedOf
import Derived.ProofKit
import Derived.OpenShut
import Derived.RowKitTokens
import Derived.LaidLaws
import Derived.LaidHandle
import Derived.Stop.Joined
import Derived.LaidEql
import Derived.Stop.Asserts
import Derived.Laws.RangeString
import Derived.Maps.AppendAt
import Derived.OwnWalk
import Derived.Lib.SliceRun
import Derived.Laws.OwnMore
import Derived.Deep.AppendLies
set_option linter.unusedVariables false
set_option linter.unusedSimpArgs false
/- Small lemmas. -/
namespace Go.Proofs.YtgceecfjammnaaaDoor
open Go.RowKit

theorem ret_bool {a b : Bool} (h : a = b) : Ending.returned (.bool a) = .returned (.bool b) := by rw [h]
theorem bcell {W w1 : World} (hb : Below W.heap.size W w1) : (∀ b o, b < W.heap.size → w1.cell? ⟨b, o, none⟩ = W.cell? ⟨b, o, none⟩) ∧ (∀ b o, b < W.heap.size → w1.frozen? ⟨b, o, none⟩ = W.frozen? ⟨b, o, none⟩) :=
  ⟨fun b o h => hb.cell (p := ⟨b, o, none⟩) h, fun b o h => hb.frozen (p := ⟨b, o, none⟩) h⟩
theorem blt {w : World} {b o : Nat} {v : Value} (h : w.cell? ⟨b, o, none⟩ = some v) : b < w.heap.size := World.block_lt_of_cell? w ⟨b, o, none⟩ h
theorem keep_alloc {W : World} {b o : Nat} {v : Value} (X : Obj) (h : W.cell? ⟨b, o, none⟩ = some v) : (W.alloc X).cell? ⟨b, o, none⟩ = some v :=
  (World.cell?_of_block (w := W) (Below.heap_alloc W X b (blt h))).trans h
theorem set_other (W : World) (v : Value) {b bm o om : Nat} (hne : b ≠ bm) : (W.setCell ⟨bm, om, none⟩ v).cell? ⟨b, o, none⟩ = W.cell? ⟨b, o, none⟩ :=
  World.cell?_of_block (w := W) (Below.heap_setCell W ⟨bm, om, none⟩ v b hne)
theorem below_drewN {m : Nat} {a w : World} (h : Below m a w) (n : Nat) : Below m a (w.drewN n) := h.trans ⟨rfl, rfl, rfl, Nat.le_refl _, fun _ _ => rfl⟩
theorem below_drew {m : Nat} {a w : World} (h : Below m a w) : Below m a w.drew := h.trans ⟨rfl, rfl, rfl, Nat.le_refl _, fun _ _ => rfl⟩
theorem below_alloc (w : World) (o : Obj) : Below w.heap.size w (w.alloc o) := (Below.refl _ w).alloc (Nat.le_refl _) o
theorem bal {a W : World} (h : Below a.heap.size a W) (o : Obj) : Below a.heap.size a (W.alloc o) := h.alloc h.size o
theorem btr {a W W' : World} (h : Below a.heap.size a W) (k : Below W.heap.size W W') : Below a.heap.size a W' := h.trans (k.mono h.size)

/-- The bits of a number that a mask leaves. -/
theorem and_mask {a : Int} {m : Nat} (h0 : 0 ≤ a) (h1 : a ≤ 4294967295) (hm : m ≤ 32) : (((BitVec.ofInt 64 a &&& BitVec.ofInt 64 (((2 ^ m : Nat) : Int) - 1)).toNat : Nat) : Int) = a % ((2 ^ m : Nat) : Int) := by
  obtain ⟨n, rfl⟩ : ∃ n : Nat, a = n := ⟨a.toNat, by omega⟩
  have hp : (2 : Nat) ^ m ≤ 2 ^ 32 := Nat.pow_le_pow_right (by omega) hm
  have hp0 := Nat.two_pow_pos m
  rw [show (((2 ^ m : Nat) : Int) - 1) = (((2 ^ m - 1 : Nat)) : Int) by omega]
  simp only [BitVec.ofInt_natCast, BitVec.toNat_and, BitVec.toNat_ofNat]
  rw [Nat.mod_eq_of_lt (show n < 2 ^ 64 by omega), Nat.mod_eq_of_lt (show 2 ^ m - 1 < 2 ^ 64 by omega), Nat.and_two_pow_sub_one_eq_mod]
  rfl
theorem or_mask {a : Int} {m : Nat} (h0 : 0 ≤ a) (h1 : a ≤ 4294967295) (hm : m ≤ 32) (hd : a % ((2 ^ m : Nat) : Int) = 0) : (((BitVec.ofInt 64 a ||| BitVec.ofInt 64 (((2 ^ m : Nat) : Int) - 1)).toNat : Nat) : Int) = a + (((2 ^ m : Nat) : Int) - 1) := by
  obtain ⟨n, rfl⟩ : ∃ n : Nat, a = n := ⟨a.toNat, by omega⟩
  have hp : (2 : Nat) ^ m ≤ 2 ^ 32 := Nat.pow_le_pow_right (by omega) hm
  have hp0 := Nat.two_pow_pos m
  have hd' : n % 2 ^ m = 0 := by omega
  have e := Nat.div_add_mod n (2 ^ m)
  rw [hd', Nat.add_zero] at e
  rw [show (((2 ^ m : Nat) : Int) - 1) = (((2 ^ m - 1 : Nat)) : Int) by omega]
  simp only [BitVec.ofInt_natCast, BitVec.toNat_or, BitVec.toNat_ofNat]
  rw [Nat.mod_eq_of_lt (show n < 2 ^ 64 by omega), Nat.mod_eq_of_lt (show 2 ^ m - 1 < 2 ^ 64 by omega), ← e, ← Nat.two_pow_add_eq_or_of_lt (by omega)]
  omega

theorem pow_cast (m : Nat) : (((2 ^ m : Nat) : Int)) = (2 : Int) ^ m := by simp
theorem pow_le {m : Nat} (hm : m ≤ 32) : (0 : Int) < 2 ^ m ∧ (2 : Int) ^ m ≤ 4294967296 := by
  have hp : (2 : Nat) ^ m ≤ 2 ^ 32 := Nat.pow_le_pow_right (by omega) hm
  have hp0 := Nat.two_pow_pos m
  rw [← pow_cast]; omega
theorem bits_and {a : Int} {m : Nat} (h0 : 0 ≤ a) (h1 : a ≤ 4294967295) (hm : m ≤ 32) : bits .and .i64 a ((2 : Int) ^ m - 1) = a % (2 : Int) ^ m := by
  have e := and_mask h0 h1 hm
  rw [pow_cast] at e
  have e2 : bits .and .i64 a ((2 : Int) ^ m - 1) = IntKind.i64.wrap (((BitVec.ofInt 64 a &&& BitVec.ofInt 64 ((2 : Int) ^ m - 1)).toNat : Nat) : Int) := rfl
  have hp := pow_le hm
  have g1 := Int.emod_nonneg a (show (2 : Int) ^ m ≠ 0 by omega)
  have g2 := Int.emod_lt_of_pos a hp.1
  rw [e2, e]
  exact IntWalk.i64_in _ (by omega)
theorem bits_or {a : Int} {m : Nat} (h0 : 0 ≤ a) (h1 : a ≤ 4294967295) (hm : m ≤ 32) (hd : a % (2 : Int) ^ m = 0) : bits .or .i64 a ((2 : Int) ^ m - 1) = a + ((2 : Int) ^ m - 1) := by
  have e := or_mask h0 h1 hm (by rw [pow_cast]; exact hd)
  rw [pow_cast] at e
  have e2 : bits .or .i64 a ((2 : Int) ^ m - 1) = IntKind.i64.wrap (((BitVec.ofInt 64 a ||| BitVec.ofInt 64 ((2 : Int) ^ m - 1)).toNat : Nat) : Int) := rfl
  have hp := pow_le hm
  rw [e2, e]
  exact IntWalk.i64_in _ (by omega)
end Go.Proofs.YtgceecfjammnaaaDoor

/- What every row of a seat that lists errors.errorType alone shares. -/
namespace Go.Proofs.YtgceecfjammnaaaDoor
open Go.ChangeShapes Go.WideShapes Go.ChangeAt Go.RowKit

theorem own : ownKnob Tryd.prog.godebug = none := by kernel_rfl
theorem laidOut : laidOutB Tryd.prog = true := by kernel_rfl
theorem cells3 : Tryd.prog.cellsOf 3 = 1 := by kernel_rfl
theorem cells9 : Tryd.prog.cellsOf 9 = 1 := by kernel_rfl
theorem et0 : Tryd.prog.globalNamed "errors.errorType" = some 0 := by kernel_rfl
theorem rt0 : (Tryd.prog.cutTypes.find? (·.1 == "internal/reflectlite.rtype")).map (·.2) = some 101 := by kernel_rfl
theorem size0 : Tryd.prog.types.size = 149 := by kernel_rfl
theorem oneRow : ((List.range 149).filter fun t => Tryd.prog.rowNamed t [101, 114, 114, 111, 114]) = [50] := by kernel_rfl

/-- What the condition gives a walk: the variable's one cell. -/
theorem laid_of {W : World} (h : laidMetH Tryd.prog [("errors.errorType", Rows.laid_errors_errorType)] W) : W.cell? ⟨0, 0, none⟩ = some (.iface 101 (.agg #[.pointer (some ⟨1, 50, none⟩)])) := by
  have h' : laidMet Tryd.prog [] W ∧ handlesMet Tryd.prog [("errors.errorType", Rows.laid_errors_errorType)] W := h
  obtain ⟨name, u, ty, e1, e2, e3, e4, e5⟩ := h'.2 _ (List.mem_singleton.2 rfl)
  have en : name = [101, 114, 114, 111, 114] := (Option.some.inj e1).symm
  subst en
  obtain rfl := Option.some.inj (rt0.symm.trans e2)
  have hm : ty ∈ (List.range 149).filter fun t => Tryd.prog.rowNamed t [101, 114, 114, 111, 114] := List.mem_filter.2 ⟨List.mem_range.2 (by rw [← size0]; exact e3), e4⟩
  rw [oneRow] at hm
  obtain rfl := List.mem_singleton.1 hm
  have hh : typeHandle Tryd.prog 50 = .pointer (some ⟨1, 50, none⟩) := by kernel_rfl
  rw [hh] at e5
  simpa using World.var?_cell et0 e5 0

/-- A world that meets the condition: the settled one, the variable's cell laid. -/
noncomputable def laidWorld (os : Os) : World :=
  let w0 := World.holding Tryd.prog os ⟨#[], #[], []⟩
  { w0 with heap := w0.heap.modify 0 fun
      | .cells _ t frozen => .cells #[.iface 101 (.agg #[.pointer (some ⟨1, 50, none⟩)])] t frozen
      | o => o }
theorem laidWorld_met (os : Os) (args : Array Value) : laidMetH Tryd.prog [("errors.errorType", Rows.laid_errors_errorType)] ((laidWorld os).forCall (fun _ _ => 0) ⟨#[], args, []⟩).memory :=
  laidMetH_of_parts (laidMet_nil _ _) (by kernel_rfl)
end Go.Proofs.YtgceecfjammnaaaDoor

/- errors.As, where the target is a variable of the fault's own type: its contract. -/
namespace Go.Proofs.YtgceecfjammnaaaDoor
open Go.RowKit Go.Extern.Stop Go.Stop Go.Extern

theorem valueOf63 (t : Addr) (w : World) : (ReflectliteValue.unpack (.iface 77 (.pointer (some t)))).run Tryd.prog w
    = .ok (.agg #[.pointer (some ⟨1, 77, none⟩), .pointer (some ⟨w.heap.size, 0, none⟩), .int .u64 150]) (w.alloc (.cells #[.pointer (some t)] 77)) := by kernel_rfl
theorem type63 (a : Addr) (w : World) : (ReflectliteValue.methodAny (ReflectliteValue.valueError "reflectlite.Value.Type" 0) (fun t _ _ _ => ReflectliteType.toType t) #[.agg #[.pointer (some ⟨1, 77, none⟩), .pointer (some a), .int .u64 150]]).run Tryd.prog w
    = .ok (.iface 101 (.agg #[.pointer (some ⟨1, 77, none⟩)])) w := by kernel_rfl
theorem methodKind (h : Value) (w : World) : (Go.method 249 101 (.agg #[h]) "Kind").run Tryd.prog w = .ok (92, h) w := by kernel_rfl
theorem kind63 (w : World) : ((ReflectliteType.abiMethod fun t => (fun a : Nat => Value.int IntKind.u8 (a : Int)) <$> Rtype.kind t) #[.pointer (some ⟨1, 77, none⟩)]).run Tryd.prog w = .ok (.int .u8 22) w := by kernel_rfl
theorem kind61 (w : World) : ((ReflectliteType.abiMethod fun t => (fun a : Nat => Value.int IntKind.u8 (a : Int)) <$> Rtype.kind t) #[.pointer (some ⟨1, 75, none⟩)]).run Tryd.prog w = .ok (.int .u8 25) w := by kernel_rfl

theorem rlm (z : Sem Value) (f : TypeId → Addr → Nat → Nat → Sem Value) (v : Value) :
    ReflectliteValue.method z f #[v] = (do match ← ReflectliteValue.parts v with | none => z | some (t, a, fl) => f t a fl (fl % 32)) := rfl
theorem parts63 (a : Addr) (w : World) : (ReflectliteValue.parts (.agg #[.pointer (some ⟨1, 77, none⟩), .pointer (some a), .int .u64 150])).run Tryd.prog w = .ok (some (77, a, 150)) w := by kernel_rfl
theorem isNil63 (a p : Addr) (W : World) (ha : W.cell? a = some (.pointer (some p))) :
    (ReflectliteValue.method (ReflectliteValue.valueError "reflectlite.Value.IsNil" 0) ReflectliteValue.isNil #[.agg #[.pointer (some ⟨1, 77, none⟩), .pointer (some a), .int .u64 150]]).run Tryd.prog W = .ok (.bool false) W := by
  rw [rlm]
  simp only [Sem.run_bind, parts63, Result.andThen]
  simp [ReflectliteValue.isNil, loadVar, isAgg, underlying, Tryd.underlying77, ha, Result.andThen]

theorem methodElem (h : Value) (w : World) : (Go.method 249 101 (.agg #[h]) "Elem").run Tryd.prog w = .ok (102, .agg #[h]) w := by kernel_rfl
theorem methodImplements (h : Value) (w : World) : (Go.method 249 101 (.agg #[h]) "Implements").run Tryd.prog w = .ok (103, .agg #[h]) w := by kernel_rfl
theorem methodAssignableTo (h : Value) (w : World) : (Go.method 249 101 (.agg #[h]) "AssignableTo").run Tryd.prog w = .ok (100, .agg #[h]) w := by kernel_rfl
theorem elem63 (w : World) : (ReflectliteType.method ReflectliteType.elem #[.agg #[.pointer (some ⟨1, 77, none⟩)]]).run Tryd.prog w = .ok (.iface 101 (.agg #[.pointer (some ⟨1, 75, none⟩)])) w := by kernel_rfl
theorem implements61 (w : World) : (ReflectliteType.relation "Implements" ReflectliteType.implements_ #[.agg #[.pointer (some ⟨1, 75, none⟩)], .iface 101 (.agg #[.pointer (some ⟨1, 50, none⟩)])]).run Tryd.prog w = .ok (.bool true) w := by kernel_rfl
theorem typeOf61 (v : Value) (w : World) : (ReflectliteType.typeOf #[.iface 75 v]).run Tryd.prog w = .ok (.iface 101 (.agg #[.pointer (some ⟨1, 75, none⟩)])) w := by kernel_rfl
theorem assignable61 (w : World) : (ReflectliteType.relation "AssignableTo" ReflectliteType.assignableTo #[.agg #[.pointer (some ⟨1, 75, none⟩)], .iface 101 (.agg #[.pointer (some ⟨1, 75, none⟩)])]).run Tryd.prog w = .ok (.bool true) w := by kernel_rfl
theorem valueOf61 (e : Int) (w : World) : (ReflectliteValue.unpack (.iface 75 (.agg #[.int .i64 e]))).run Tryd.prog w
    = .ok (.agg #[.pointer (some ⟨1, 75, none⟩), .pointer (some ⟨w.heap.size, 0, none⟩), .int .u64 153]) (w.alloc (.cells #[.int .i64 e] 75)) := by kernel_rfl

theorem elemOf63 (w : World) : (Rtype.elem? 77).run Tryd.prog w = .ok (some 75) w := by kernel_rfl
theorem mk61 (p : Addr) (w : World) : (ReflectliteValue.mk 75 p ReflectliteValue.flagAddr).run Tryd.prog w = .ok (.agg #[.pointer (some ⟨1, 75, none⟩), .pointer (some p), .int .u64 409]) w := by kernel_rfl
theorem elemV63 (a p : Addr) (W : World) (ha : W.cell? a = some (.pointer (some p))) :
    (ReflectliteValue.method (ReflectliteValue.valueError "reflectlite.Value.Elem" 0) ReflectliteValue.elem #[.agg #[.pointer (some ⟨1, 77, none⟩), .pointer (some a), .int .u64 150]]).run Tryd.prog W
      = .ok (.agg #[.pointer (some ⟨1, 75, none⟩), .pointer (some p), .int .u64 409]) W := by
  rw [rlm]
  simp only [Sem.run_bind, parts63, Result.andThen]
  simp [ReflectliteValue.elem, loadVar, isAgg, underlying, Tryd.underlying77, ha, Result.andThen, elemOf63, mk61]
theorem rls (v x : Value) : ReflectliteValue.set #[v, x] = (do
    let (some (dst, a, fl), some (src, b, _)) := (← ReflectliteValue.parts v, ← ReflectliteValue.parts x)
      | unsupported (.noEntry "extern/(internal/reflectlite.Value).Set.zeroValue")
    if fl / ReflectliteValue.flagAddr % 2 == 0 then unsupported (.noEntry "extern/(internal/reflectlite.Value).Set.unaddressable")
    let val ← loadVar src b
    if ← Rtype.directlyAssignable dst src then storeVar dst a val
    else if ← Rtype.implements dst src then
      if (← Rtype.kind src) == 20 then
        match val with
        | .nilIface => unsupported (.noEntry "extern/reflectlite: a nil value of one interface type handed on as a value of another")
        | _ => storeVar dst a val
      else storeVar dst a (.iface src val)
    else panicString ("reflectlite.Set: value of type " ++ (← Rtype.spelt src) ++ " is not assignable to type " ++ (← Rtype.spelt dst))
    pure (.tuple #[])) := rfl
theorem parts61a (a : Addr) (w : World) : (ReflectliteValue.parts (.agg #[.pointer (some ⟨1, 75, none⟩), .pointer (some a), .int .u64 409])).run Tryd.prog w = .ok (some (75, a, 409)) w := by kernel_rfl
theorem parts61 (a : Addr) (w : World) : (ReflectliteValue.parts (.agg #[.pointer (some ⟨1, 75, none⟩), .pointer (some a), .int .u64 153])).run Tryd.prog w = .ok (some (75, a, 153)) w := by kernel_rfl
theorem direct61 (w : World) : (Rtype.directlyAssignable 75 75).run Tryd.prog w = .ok true w := by kernel_rfl
theorem size61 (w : World) : (sizeOf 75).run Tryd.prog w = .ok 1 w := by kernel_rfl
theorem set61 (ta b : Addr) (e : Int) (old : Value) (W : World) (hb : W.cell? b = some (.int .i64 e)) (ht : W.cell? ta = some old) (hf : W.frozen? ta = false) :
    (ReflectliteValue.set #[.agg #[.pointer (some ⟨1, 75, none⟩), .pointer (some ta), .int .u64 409], .agg #[.pointer (some ⟨1, 75, none⟩), .pointer (some b), .int .u64 153]]).run Tryd.prog W
      = .ok (.tuple #[]) (W.setCell ta (.int .i64 e)) := by
  rw [rls]
  simp only [Sem.run_bind, parts61a, parts61, Result.andThen]
  have hl : (loadVar 75 b).run Tryd.prog W = .ok (.agg #[.int .i64 e]) W := by
    simp [loadVar, isAgg, underlying, Tryd.underlying75, Result.andThen, loadCells, loadCellsFrom, Addr.add, hb]
  simp [ReflectliteValue.flagAddr, hl, Result.andThen, direct61, storeVar, Value.cells, storeCells, Addr.add]
  rw [run_store Tryd.prog W ta _ _ (by rfl)]
  simp [ht, hf]
end Go.Proofs.YtgceecfjammnaaaDoor

/- errors.As, where the target is a variable of the fault's own type: nil, and a fault. -/
namespace Go.Proofs.YtgceecfjammnaaaDoor
open Go.RowKit Go.Extern.Stop Go.Stop Go.Extern

/-- errors.As(nil, target). -/
theorem as_nil (t : Value) (w : World) :
    Calls Tryd.prog 56 #[.nilIface, t] w fun e w' => e = .returned (.bool false) ∧ w' = w := by
  go_enter Tryd.func56, Tryd.ntmps56
  go_wp2
  go_ret
  exact ⟨rfl, rfl⟩

set_option maxRecDepth 100000 in
set_option maxHeartbeats 4000000 in
theorem as_hit (e : Int) (t : Addr) (old : Value) (w : World) (hg : w.cell? ⟨0, 0, none⟩ = some (.iface 101 (.agg #[.pointer (some ⟨1, 50, none⟩)]))) (ht0 : w.cell? t = some old) (hf0 : w.frozen? t = false) :
    Calls Tryd.prog 56 #[.iface 75 (.agg #[.int .i64 e]), .iface 77 (.pointer (some t))] w fun ev w' => ev = .returned (.bool true) ∧ w' = ((((w.alloc (.cells #[.pointer (some t)] 77)).alloc (.cells #[.pointer (some ⟨1, 77, none⟩), .pointer (some ⟨w.heap.size, 0, none⟩), .int .u64 150] 92)).alloc (.cells #[.pointer (some ⟨1, 77, none⟩), .pointer (some ⟨w.heap.size, 0, none⟩), .int .u64 150] 92)).alloc (.cells #[.int .i64 e] 75)).setCell t (.int .i64 e) := by
  have g6 := @run_callFunc_extern Tryd.prog 65 _ (fun args => ReflectliteValue.unpack (args.getD 0 (.tuple #[]))) Tryd.func65 (by kernel_rfl) (by kernel_rfl) (by kernel_rfl) (by kernel_rfl)
  have g7 := @run_callFunc_extern Tryd.prog 66 _ (ReflectliteValue.methodAny (ReflectliteValue.valueError "reflectlite.Value.Type" 0) (fun t _ _ _ => ReflectliteType.toType t)) Tryd.func66 (by kernel_rfl) (by kernel_rfl) (by kernel_rfl) (by kernel_rfl)
  have g8 := @run_callFunc_extern Tryd.prog 67 _ (ReflectliteValue.method (ReflectliteValue.valueError "reflectlite.Value.IsNil" 0) ReflectliteValue.isNil) Tryd.func67 (by kernel_rfl) (by kernel_rfl) (by kernel_rfl) (by kernel_rfl)
  have g27 := @run_callFunc_extern Tryd.prog 92 _ (ReflectliteType.abiMethod fun t => do pure (.int .u8 (← Rtype.kind t))) Tryd.func92 (by kernel_rfl) (by kernel_rfl) (by kernel_rfl) (by kernel_rfl)
  have g37 := @run_callFunc_extern Tryd.prog 102 _ (ReflectliteType.method ReflectliteType.elem) Tryd.func102 (by kernel_rfl) (by kernel_rfl) (by kernel_rfl) (by kernel_rfl)
  have g38 := @run_callFunc_extern Tryd.prog 103 _ (ReflectliteType.relation "Implements" ReflectliteType.implements_) Tryd.func103 (by kernel_rfl) (by kernel_rfl) (by kernel_rfl) (by kernel_rfl)
  have g10 := @run_callFunc_extern Tryd.prog 61 _ ReflectliteType.typeOf Tryd.func61 (by kernel_rfl) (by kernel_rfl) (by kernel_rfl) (by kernel_rfl)
  have g35 := @run_callFunc_extern Tryd.prog 100 _ (ReflectliteType.relation "AssignableTo" ReflectliteType.assignableTo) Tryd.func100 (by kernel_rfl) (by kernel_rfl) (by kernel_rfl) (by kernel_rfl)
  have g11 := @run_callFunc_extern Tryd.prog 74 _ (ReflectliteValue.method (ReflectliteValue.valueError "reflectlite.Value.Elem" 0) ReflectliteValue.elem) Tryd.func74 (by kernel_rfl) (by kernel_rfl) (by kernel_rfl) (by kernel_rfl)
  have g12 := @run_callFunc_extern Tryd.prog 75 _ ReflectliteValue.set Tryd.func75 (by kernel_rfl) (by kernel_rfl) (by kernel_rfl) (by kernel_rfl)
  have tO := typeOf61
  have mA := methodAssignableTo
  have a25 := assignable61
  have v25 := valueOf61
  have f6 := valueOf63
  have f7 := type63
  have mK := methodKind
  have mE := methodElem
  have mI := methodImplements
  have k27 := kind63
  have k25 := kind61
  have e27 := elem63
  have i25 := implements61
  have n8 := isNil63 ⟨w.heap.size, 0, none⟩ t ((w.alloc (.cells #[.pointer (some t)] 77)).alloc (.cells #[.pointer (some ⟨1, 77, none⟩), .pointer (some ⟨w.heap.size, 0, none⟩), .int .u64 150] 92)) (by simp)
  have hlt : 0 < w.heap.size := blt hg
  have hg2 : ((w.alloc (.cells #[.pointer (some t)] 77)).alloc (.cells #[.pointer (some ⟨1, 77, none⟩), .pointer (some ⟨w.heap.size, 0, none⟩), .int .u64 150] 92)).cell? ⟨0, 0, none⟩ = some (.iface 101 (.agg #[.pointer (some ⟨1, 50, none⟩)])) := by
    rw [World.cell?_alloc_lt _ _ ⟨0, 0, none⟩ (by rw [World.size_alloc]; exact Nat.lt_succ_of_lt hlt), World.cell?_alloc_lt _ _ ⟨0, 0, none⟩ hlt]; exact hg
  have htl : t.block < w.heap.size := by
    rcases Nat.lt_or_ge t.block w.heap.size with h | h
    · exact h
    · simp [World.cell?, Array.getElem?_eq_none h] at ht0
  have el := elemV63 ⟨w.heap.size, 0, none⟩ t (((w.alloc (.cells #[.pointer (some t)] 77)).alloc (.cells #[.pointer (some ⟨1, 77, none⟩), .pointer (some ⟨w.heap.size, 0, none⟩), .int .u64 150] 92)).alloc (.cells #[.pointer (some ⟨1, 77, none⟩), .pointer (some ⟨w.heap.size, 0, none⟩), .int .u64 150] 92)) (by rw [World.cell?_alloc_lt _ _ ⟨w.heap.size, 0, none⟩ (by simp; omega)]; simp)
  have st := set61 t ⟨w.heap.size + 1 + 1 + 1, 0, none⟩ e old ((((w.alloc (.cells #[.pointer (some t)] 77)).alloc (.cells #[.pointer (some ⟨1, 77, none⟩), .pointer (some ⟨w.heap.size, 0, none⟩), .int .u64 150] 92)).alloc (.cells #[.pointer (some ⟨1, 77, none⟩), .pointer (some ⟨w.heap.size, 0, none⟩), .int .u64 150] 92)).alloc (.cells #[.int .i64 e] 75))
    (by rw [World.cell?_alloc_at _ _ _ _ (by simp)]; rfl)
    (by rw [World.cell?_alloc_lt _ _ t (by simp; omega), World.cell?_alloc_lt _ _ t (by simp; omega), World.cell?_alloc_lt _ _ t (by simp; omega), World.cell?_alloc_lt _ _ t htl]; exact ht0)
    (by rw [World.frozen?_alloc_old _ _ t (by simp; omega), World.frozen?_alloc_old _ _ t (by simp; omega), World.frozen?_alloc_old _ _ t (by simp; omega), World.frozen?_alloc_old _ _ t (Nat.ne_of_lt htl)]; exact hf0)
  go_enter Tryd.func56, Tryd.ntmps56
  go_wp2
  refine wp_loop_rounds 1 ?_
  rw [rounds_succ]
  go_wp2
  go_ret
  exact ⟨rfl, rfl⟩
end Go.Proofs.YtgceecfjammnaaaDoor

/- errors.Is, where both are nil or one fault; the faults' own makers. -/
namespace Go.Proofs.YtgceecfjammnaaaDoor
open Go.RowKit Go.Extern.Stop Go.Stop Go.Extern

theorem methodComparable (h : Value) (w : World) : (Go.method 249 101 (.agg #[h]) "Comparable").run Tryd.prog w = .ok (101, .agg #[h]) w := by kernel_rfl
theorem comparable61 (w : World) : ((ReflectliteType.method fun t => do Rtype.noPackHeld "Comparable" t; (fun a => Value.bool a.comparable) <$> typeInfo t) #[.agg #[.pointer (some ⟨1, 75, none⟩)]]).run Tryd.prog w = .ok (.bool true) w := by kernel_rfl

theorem eql61 (e : Int) (w : World) : (binOp .eql 50 (.iface 75 (.agg #[.int .i64 e])) (.iface 75 (.agg #[.int .i64 e]))).run Tryd.prog w = .ok (.bool true) w := by
  obtain ⟨i, hi, hcmp⟩ := Option.map_eq_some_iff.1 (show (Tryd.prog.info? 75).map (·.comparable) = some true by kernel_rfl)
  have hp : ∀ W, (part 29 #[.int .i64 e] 0).run Tryd.prog W = .ok (.int .i64 e) W := fun _ => by kernel_rfl
  have hs : ∀ d : Nat, (Op.equalIn (d + 2) 75 (.agg #[.int .i64 e]) (.agg #[.int .i64 e])).run Tryd.prog w = .ok true w := fun d => by
    rw [run_equalIn_struct w (d + 1) 75 _ _ (by simp [Program.fieldsOf, Tryd.underlying75]) (by kernel_rfl)]
    simp [Program.fieldsOf, Tryd.underlying75, Op.eqFields, hp, Op.equalIn, run_underlying Tryd.underlying29]
  have h : ∀ d : Nat, (Op.equalIn (d + 3) 50 (.iface 75 (.agg #[.int .i64 e])) (.iface 75 (.agg #[.int .i64 e]))).run Tryd.prog w = .ok true w := fun d => by
    rw [Op.equalIn]
    simp [run_underlying Tryd.underlying50, typeInfo, hi, hcmp, hs]
  simp only [binOp]
  simp [Op.equal, Op.maxDepth, h 9997]
set_option maxRecDepth 100000 in
/-- errors.Is(nil, x). -/
theorem is_nil (e : Int) (w : World) :
    Calls Tryd.prog 40 #[.nilIface, .iface 75 (.agg #[.int .i64 e])] w fun x w' => x = .returned (.bool false) ∧ w = w' := by
  have hn := run_eql_iface_nil_left (P := Tryd.prog) w 75 (.agg #[.int .i64 e]) Tryd.underlying50
  go_enter Tryd.func40, Tryd.ntmps40
  go_wp2
  go_ret
  exact ⟨rfl, rfl⟩
set_option maxRecDepth 100000 in
set_option maxHeartbeats 4000000 in
/-- errors.Is(x, x), x a fault. -/
theorem is_same (e : Int) (w : World) :
    Calls Tryd.prog 40 #[.iface 75 (.agg #[.int .i64 e]), .iface 75 (.agg #[.int .i64 e])] w fun x w' => x = .returned (.bool true) ∧ w = w' := by
  have h8 := @run_callFunc_extern Tryd.prog 61 _ ReflectliteType.typeOf Tryd.func61 (by kernel_rfl) (by kernel_rfl) (by kernel_rfl) (by kernel_rfl)
  have h32 := @run_callFunc_extern Tryd.prog 101 _ (ReflectliteType.method fun t => do Rtype.noPackHeld "Comparable" t; pure (.bool (← typeInfo t).comparable)) Tryd.func101 (by kernel_rfl) (by kernel_rfl) (by kernel_rfl) (by kernel_rfl)
  have tT := typeOf61
  have cT := comparable61
  have mR := methodComparable
  have eE := eql61 e
  go_enter Tryd.func40, Tryd.ntmps40
  go_wp2
  refine wp_loop_rounds 1 ?_
  rw [rounds_succ]
  go_wp2
  go_ret
  exact ⟨rfl, rfl⟩

theorem of_c (w : World) (c : Int) (hc : (c == 0) = false) : Calls Tryd.prog 41 #[.int .i64 c] w fun x w' => x = .returned (.iface 75 (.agg #[.int .i64 c])) ∧ w = w' := by
  go_enter Tryd.func41, Tryd.ntmps41
  go_wp2
  go_ret
  exact ⟨rfl, rfl⟩
/-- What a check's failing leaves. -/
def errV (b : Bool) (c : Int) : Value := if b = true then .nilIface else .iface 75 (.agg #[.int .i64 c])
theorem unless_c (w : World) (b : Bool) (c : Int) : Calls Tryd.prog 37 #[.bool b, .int .i64 c] w fun x w' => x = .returned (errV b c) ∧ w = w' := by
  cases b
  all_goals
    go_enter Tryd.func37, Tryd.ntmps37
    go_wp2
    go_ret
    exact ⟨rfl, rfl⟩
set_option maxRecDepth 100000 in
set_option maxHeartbeats 4000000 in
theorem no_c (w : World) (c : Int) (hg : w.cell? ⟨0, 0, none⟩ = some (.iface 101 (.agg #[.pointer (some ⟨1, 50, none⟩)]))) :
    Calls Tryd.prog 28 #[.iface 75 (.agg #[.int .i64 c])] w fun x w' => x = .returned (.int .i64 c) ∧ Below w.heap.size w w' := by
  have hg2 : (w.alloc (.cells #[.int .i64 0] 75)).cell? ⟨0, 0, none⟩ = some (.iface 101 (.agg #[.pointer (some ⟨1, 50, none⟩)])) := keep_alloc _ hg
  have HA := Lib.hid (as_hit c ⟨w.heap.size, 0, none⟩ (.int .i64 0) (w.alloc (.cells #[.int .i64 0] 75)) hg2 (by go_simp) (by go_simp))
  clear hg2 hg
  go_enter Tryd.func28, Tryd.ntmps28
  go_wp2_with fail
  refine HA.out.mono ?_
  rintro x w1 ⟨rfl, rfl⟩
  go_wp2
  go_ret
  exact ⟨rfl, bal (bal (bal (bal (below_alloc _ _) _) _) _) _⟩
end Go.Proofs.YtgceecfjammnaaaDoor

/- words.Right: which texts are words. -/
namespace Go.Proofs.YtgceecfjammnaaaDoor.L16
open Go.RowKit Go.Shelf
attribute [local go_sem] Oper.semAt_some
set_option linter.unusedSimpArgs false
set_option linter.unusedVariables false

/-- A text is a word. -/
def printB (s : ByteArray) : Bool := s.data.toList.all fun b => decide (32 ≤ b.toNat ∧ b.toNat ≤ 126)
def wordB (s : ByteArray) : Bool := decide (s.size ≤ 64) && printB s
theorem print_iff (s : ByteArray) : printB s = true ↔ ∀ i, (h : i < s.size) → 32 ≤ (s[i]'h).toNat ∧ (s[i]'h).toNat ≤ 126 := by
  unfold printB
  rw [List.all_eq_true]
  constructor
  · intro h i hi
    have := h (s[i]'hi) (List.mem_iff_getElem.2 ⟨i, by simpa using hi, rfl⟩)
    simpa using this
  · intro h b hb
    obtain ⟨i, hi, e⟩ := List.mem_iff_getElem.1 hb
    have := h i (by simpa using hi)
    have e2 : s[i]'(by simpa using hi) = b := e
    rw [e2] at this
    simpa using this
theorem print_no {s : ByteArray} {i : Nat} (h : i < s.size) (hn : ¬ (32 ≤ (s[i]'h).toNat ∧ (s[i]'h).toNat ≤ 126)) : printB s = false := by
  cases hp : printB s
  · rfl
  · exact absurd ((print_iff s).1 hp i h) hn
theorem decode_big (s : ByteArray) (pos : Nat) (h : pos < s.size) (hb : ¬ (s[pos]'h).toNat < 128) : 128 ≤ (Utf8.decode s pos).1 := by
  have e : s.get! (pos + 0) = s[pos]'h := by
    show s.get! pos = _
    simp [ByteArray.get!, getElem!_pos, h]
    rfl
  simp only [Utf8.decode, e, hb, if_false]
  have hr : 128 ≤ Utf8.runeError := by decide
  repeat' split
  all_goals first | exact hr | (simp only [Bool.and_eq_true, decide_eq_true_eq] at *; omega)
theorem run_next_big {P : Program} (w : World) (s : ByteArray) (pos : Nat) (h : pos < s.size) (hb : ¬ (s[pos]'h).toNat < 128) :
    ∃ r n : Nat, 128 ≤ r ∧ ∀ ty, (Instr.next (.pointer (some ⟨w.heap.size, 0, none⟩)) true ty).run P (w.iter s pos) = .ok (.tuple #[.bool true, .int .i64 pos, .int .i32 r]) (w.iter s (pos + n)) := by
  refine ⟨(Utf8.decode s pos).1, (Utf8.decode s pos).2, decode_big s pos h hb, fun ty => ?_⟩
  simp only [Instr.next, getObj, setObj, Sem.run_bind, Sem.run, World.iter_heap, Result.andThen, h, if_true, World.iter_set]
  simp [goInt, Sem.run, World.iter_heap, World.iter_set]
def posOf (W : World) (b : Nat) : Nat := match W.heap[b]? with | some (.stringIter _ p) => p | _ => 0
theorem posOf_iter (w : World) (s : ByteArray) (p : Nat) : posOf (w.iter s p) w.heap.size = p := by unfold posOf; rw [World.iter_heap]
set_option maxRecDepth 100000 in
set_option maxHeartbeats 4000000 in
theorem printable_c (s : ByteArray) (hs : s.size ≤ 1000000) (w : World) : Calls Tryd.prog 73 #[.string s] w fun x w' => x = .returned (errV (printB s) 11) ∧ Below w.heap.size w w' := by
  have HO := Lib.hid (fun W => of_c W 11 (by decide))
  have HB := Lib.hid (fun p => show Below w.heap.size w (w.iter s p) from below_alloc w _)
  go_enter Tryd.func73, Tryd.ntmps73
  go_wp2
  go_loopw [4] (fun _ wr => ∃ pos : Nat, pos ≤ s.size ∧ wr = w.iter s pos ∧ Hid (∀ i, (h : i < s.size) → i < pos → 32 ≤ (s[i]'h).toNat ∧ (s[i]'h).toNat ≤ 126)) (fun _ wr => s.size - posOf wr w.heap.size)
  case atStart => exact ⟨0, Nat.zero_le _, rfl, Lib.hid (fun i h hi => by omega)⟩
  case round =>
    obtain ⟨pos, hps, rfl, HP⟩ := hrel
    rw [posOf_iter]
    by_cases hp : pos < s.size
    · by_cases h128 : (s[pos]'hp).toNat < 128
      · have hnx := fun ty => run_next_ascii (P := Tryd.prog) w s pos ty hp h128
        have HN := Lib.hid (fun h => print_no (s := s) (i := pos) hp h)
        have HS := Lib.hid (show (32 ≤ (s[pos]'hp).toNat ∧ (s[pos]'hp).toNat ≤ 126) → ∀ i, (h : i < s.size) → i < pos + 1 → 32 ≤ (s[i]'h).toNat ∧ (s[i]'h).toNat ≤ 126 from fun hq i h hi => by
          by_cases e : i < pos
          · exact HP.out i h e
          · obtain rfl : i = pos := by omega
            exact hq)
        generalize (s[pos]'hp).toNat = c at *
        by_cases c1 : c < 32
        · have HF := Lib.hid (HN.out (by omega))
          have c2 : (c : Int) < 32 := by omega
          go_wp2_with (go_at_call 41; refine (HO.out _).mono ?_; rintro e w1 ⟨rfl, rfl⟩)
          go_ret
          exact ⟨by rw [HF.out]; rfl, HB.out _⟩
        · by_cases c3 : 126 < c
          · have HF := Lib.hid (HN.out (by omega))
            have c2 : ¬ (c : Int) < 32 := by omega
            have c4 : (c : Int) > 126 := by omega
            go_wp2_with (go_at_call 41; refine (HO.out _).mono ?_; rintro e w1 ⟨rfl, rfl⟩)
            go_ret
            exact ⟨by rw [HF.out]; rfl, HB.out _⟩
          · have HQ := Lib.hid (HS.out (by omega))
            have c2 : ¬ (c : Int) < 32 := by omega
            have c4 : ¬ (c : Int) > 126 := by omega
            go_wp2
            go_roundw
            case rel => exact ⟨pos + 1, by omega, rfl, HQ⟩
            case measure => rw [posOf_iter]; omega
      · obtain ⟨r, n, hr, hnx⟩ := run_next_big (P := Tryd.prog) w s pos hp h128
        have HF := Lib.hid (print_no (s := s) (i := pos) hp (by omega))
        have c2 : ¬ (r : Int) < 32 := by omega
        have c4 : (r : Int) > 126 := by omega
        go_wp2_with (go_at_call 41; refine (HO.out _).mono ?_; rintro e w1 ⟨rfl, rfl⟩)
        go_ret
        exact ⟨by rw [HF.out]; rfl, HB.out _⟩
    · have hnx := fun ty => run_next_end (P := Tryd.prog) w s pos ty hp
      have HF := Lib.hid ((print_iff s).2 (fun i h => HP.out i h (by omega)))
      go_wp2
      go_ret
      exact ⟨by rw [HF.out]; rfl, HB.out _⟩
end Go.Proofs.YtgceecfjammnaaaDoor.L16

/- words.Right. -/
namespace Go.Proofs.YtgceecfjammnaaaDoor.L16
open Go.RowKit Go.Shelf
attribute [local go_sem] Oper.semAt_some
set_option linter.unusedSimpArgs false
set_option linter.unusedVariables false
set_option maxRecDepth 100000 in
set_option maxHeartbeats 4000000 in
theorem atMost1_c (s : ByteArray) (hs : s.size ≤ 1000000) (b0 b1 : Nat) (w : World) (h0 : w.cell? ⟨b0, 0, none⟩ = some (.int .i64 64)) (h1 : w.cell? ⟨b1, 0, none⟩ = some (.int .i64 14)) :
    Calls Tryd.prog 77 #[.string s, .pointer (some ⟨b0, 0, none⟩), .pointer (some ⟨b1, 0, none⟩)] w fun x w' => x = .returned (errV (decide (s.size ≤ 64)) 14) ∧ w = w' := by
  have HU := Lib.hid (fun W b => unless_c W b 14)
  by_cases h : s.size ≤ 64
  · have h2 : (s.size : Int) ≤ 64 := by omega
    have HF := Lib.hid (decide_eq_true h)
    go_enter Tryd.func77, Tryd.ntmps77
    go_wp2_with (go_at_call 37; refine (HU.out _ _).mono ?_; rintro e w1 ⟨rfl, rfl⟩)
    go_ret
    exact ⟨by rw [HF.out]; rfl, rfl⟩
  · have h2 : ¬ (s.size : Int) ≤ 64 := by omega
    have HF := Lib.hid (decide_eq_false h)
    go_enter Tryd.func77, Tryd.ntmps77
    go_wp2_with (go_at_call 37; refine (HU.out _ _).mono ?_; rintro e w1 ⟨rfl, rfl⟩)
    go_ret
    exact ⟨by rw [HF.out]; rfl, rfl⟩
def wordE (s : ByteArray) : Value := if s.size ≤ 64 then errV (printB s) 11 else errV false 14
set_option maxRecDepth 100000 in
set_option maxHeartbeats 4000000 in
theorem obey_c (s : ByteArray) (hs : s.size ≤ 1000000) (b b0 b1 : Nat) (w : World) (h0 : w.cell? ⟨b0, 0, none⟩ = some (.int .i64 64)) (h1 : w.cell? ⟨b1, 0, none⟩ = some (.int .i64 14))
    (f0 : w.cell? ⟨b, 0, none⟩ = some (.func (.func 77) #[] #[.pointer (some ⟨b0, 0, none⟩), .pointer (some ⟨b1, 0, none⟩)])) (f1 : w.cell? ⟨b, 1, none⟩ = some (.func (.func 73) #[] #[])) :
    Calls Tryd.prog 71 #[.string s, .slice (some ⟨b, 0, none⟩) 2 2] w fun x w' => x = .returned (wordE s) ∧ Below w.heap.size w w' := by
  have HA := Lib.hid (atMost1_c s hs b0 b1 w h0 h1)
  have HP := Lib.hid (fun W => printable_c s hs W)
  unfold wordE
  by_cases h : s.size ≤ 64
  · rw [if_pos h]
    rw [decide_eq_true h, show errV true 14 = Value.nilIface from rfl] at HA
    cases hp : printB s
    · rw [hp, show errV false 11 = Value.iface 75 (.agg #[.int .i64 11]) from rfl] at HP
      clear h hp
      go_enter Tryd.func71, Tryd.ntmps71
      go_wp2_with fail
      refine wp_loop_rounds 3 ?_
      rw [rounds_succ]
      go_wp2_with (go_at_call 77; refine HA.out.mono ?_; rintro e w1 ⟨rfl, rfl⟩)
      rw [rounds_succ]
      go_wp2_with (go_at_call 73; refine (HP.out _).mono ?_; rintro e w2 ⟨rfl, hb⟩)
      go_ret
      exact ⟨rfl, hb⟩
    · rw [hp, show errV true 11 = Value.nilIface from rfl] at HP
      clear h hp
      go_enter Tryd.func71, Tryd.ntmps71
      go_wp2_with fail
      refine wp_loop_rounds 3 ?_
      rw [rounds_succ]
      go_wp2_with (go_at_call 77; refine HA.out.mono ?_; rintro e w1 ⟨rfl, rfl⟩)
      rw [rounds_succ]
      go_wp2_with (go_at_call 73; refine (HP.out _).mono ?_; rintro e w2 ⟨rfl, hb⟩)
      rw [rounds_succ]
      go_wp2_with fail
      go_ret
      exact ⟨rfl, hb⟩
  · rw [if_neg h]
    rw [decide_eq_false h, show errV false 14 = Value.iface 75 (.agg #[.int .i64 14]) from rfl] at HA
    clear h
    go_enter Tryd.func71, Tryd.ntmps71
    go_wp2_with fail
    refine wp_loop_rounds 3 ?_
    rw [rounds_succ]
    go_wp2_with (go_at_call 77; refine HA.out.mono ?_; rintro e w1 ⟨rfl, rfl⟩)
    go_ret
    exact ⟨rfl, Below.refl _ _⟩
set_option maxRecDepth 100000 in
set_option maxHeartbeats 4000000 in
theorem wrong_c (s : ByteArray) (hs : s.size ≤ 1000000) (w : World) : Calls Tryd.prog 64 #[.string s] w fun x w' => x = .returned (wordE s) ∧ Below w.heap.size w w' := by
  have HO := Lib.hid (fun b b0 b1 W h0 h1 f0 f1 => obey_c s hs b b0 b1 W h0 h1 f0 f1)
  have HA := Lib.hid (show ∀ W : World, Calls Tryd.prog 72 #[.int .i64 64, .int .i64 14] W fun x w' => x = .returned (.func (.func 77) #[] #[.pointer (some ⟨W.heap.size, 0, none⟩), .pointer (some ⟨W.heap.size + 1, 0, none⟩)]) ∧ w' = (W.alloc (.cells #[.int .i64 64] 3)).alloc (.cells #[.int .i64 14] 29) from fun W => by
    go_enter Tryd.func72, Tryd.ntmps72
    go_wp2
    go_ret
    exact ⟨rfl, rfl⟩)
  go_enter Tryd.func64, Tryd.ntmps64
  go_wp2_with fail
  go_at_call 72
  refine (HA.out _).mono ?_
  rintro e w1 ⟨rfl, rfl⟩
  go_wp2_with fail
  go_at_call 71
  refine (HO.out _ w.heap.size (w.heap.size + 1) _ (by go_simp) (by go_simp) (by go_simp) (by go_simp)).mono ?_
  rintro e w2 ⟨rfl, hb⟩
  have HB := Lib.hid (btr (bal (bal (below_alloc w _) _) _) hb)
  clear hb
  go_wp2
  go_ret
  exact ⟨rfl, HB.out⟩
set_option maxRecDepth 100000 in
set_option maxHeartbeats 4000000 in
theorem word_c (s : ByteArray) (hs : s.size ≤ 1000000) (w : World) : Calls Tryd.prog 54 #[.string s] w fun x w' => x = .returned (.bool (wordB s)) ∧ Below w.heap.size w w' := by
  have HW := Lib.hid (fun W => wrong_c s hs W)
  have key : (wordE s = .nilIface ∧ wordB s = true) ∨ (∃ c : Int, wordE s = .iface 75 (.agg #[.int .i64 c]) ∧ wordB s = false) := by
    unfold wordE wordB
    by_cases h : s.size ≤ 64
    · rw [if_pos h, decide_eq_true h]
      cases printB s
      · exact .inr ⟨11, rfl, rfl⟩
      · exact .inl ⟨rfl, rfl⟩
    · rw [if_neg h, decide_eq_false h]
      exact .inr ⟨14, rfl, rfl⟩
  rcases key with ⟨e1, e2⟩ | ⟨c, e1, e2⟩
  · rw [e1] at HW
    rw [e2]
    clear e1 e2
    go_enter Tryd.func54, Tryd.ntmps54
    go_wp2_with (go_at_call 64; refine (HW.out _).mono ?_; rintro e w2 ⟨rfl, hb⟩)
    go_ret
    exact ⟨rfl, hb⟩
  · rw [e1] at HW
    rw [e2]
    clear e1 e2
    go_enter Tryd.func54, Tryd.ntmps54
    go_wp2_with (go_at_call 64; refine (HW.out _).mono ?_; rintro e w2 ⟨rfl, hb⟩)
    go_ret
    exact ⟨rfl, hb⟩
end Go.Proofs.YtgceecfjammnaaaDoor.L16

/- Texts in memory, and their copies. -/
namespace Go.Proofs.YtgceecfjammnaaaDoor.L16
open Go.RowKit Go.Shelf
attribute [local go_sem] Oper.semAt_some
set_option linter.unusedSimpArgs false
set_option linter.unusedVariables false
/-- The cells from a hold the numbers zs, in a block below n₀. -/
def StrsAt (n₀ : Nat) (W : World) (a : Option Addr) (zs : List ByteArray) : Prop :=
  ∀ i, (h : i < zs.length) → ∃ b off, a = some ⟨b, off, none⟩ ∧ b < n₀ ∧ W.cell? ⟨b, off + i, none⟩ = some (.string zs[i])
theorem StrsAt.below {n₀ : Nat} {A B : World} (h : Below n₀ A B) {a : Option Addr} {zs : List ByteArray} (k : StrsAt n₀ A a zs) : StrsAt n₀ B a zs := fun i hi => by
  obtain ⟨b, off, e, hb, hc⟩ := k i hi
  exact ⟨b, off, e, hb, (h.cell (p := ⟨b, off + i, none⟩) hb).trans hc⟩
theorem StrsAt.mono {n₀ m : Nat} (h : n₀ ≤ m) {W : World} {a : Option Addr} {zs : List ByteArray} (k : StrsAt n₀ W a zs) : StrsAt m W a zs := fun i hi => by
  obtain ⟨b, off, e, hb, hc⟩ := k i hi
  exact ⟨b, off, e, by omega, hc⟩
theorem StrsAt.nil (n₀ : Nat) (W : World) (a : Option Addr) : StrsAt n₀ W a [] := fun i hi => by simp at hi
theorem grown_of_below {W W' : World} (h : Below W.heap.size W W') : W.grownBy W' none := ⟨h.os, h.tape, h.output, h.size, fun i hi _ => h.block i hi⟩

theorem grownBy_setCell (W : World) (b o : Nat) (v : Value) : W.grownBy (W.setCell ⟨b, o, none⟩ v) (some b) :=
  ⟨rfl, rfl, rfl, by simp [World.setCell], fun i _ hne => Below.heap_setCell _ _ _ _ (fun e => hne (congrArg some e))⟩
theorem info9 : (Tryd.prog.info? 9).map (fun i => (i.zero, i.size, i.bytes)) = some (some (.string ⟨#[]⟩), 1, 16) := by kernel_rfl
theorem add_at (b o j : Nat) : (⟨b, o, none⟩ : Addr).add j = ⟨b, o + j, none⟩ := by simp [Addr.add]
def strVs (zs : List ByteArray) : List Value := zs.map Value.string
@[simp] theorem strVs_length (zs : List ByteArray) : (strVs zs).length = zs.length := by simp [strVs]
/-- v owns the numbers zs, in a block from base on. -/
def OwnS (base : Nat) (w : World) (v : Value) (zs : List ByteArray) : Prop := w.ownsRow base 9 1 v zs.length (strVs zs)
theorem OwnS.form {base : Nat} {w : World} {v : Value} {zs : List ByteArray} (h : OwnS base w v zs) : ∃ a c, v = .slice a zs.length c ∧ StrsAt w.heap.size w a zs := by
  rcases h.2 with ⟨rfl, hn⟩ | ⟨g, cap, cur, rfl, hb, hg, _⟩
  · exact ⟨none, 0, by rw [hn], fun i hi => by omega⟩
  · refine ⟨some ⟨g, 0, none⟩, cap, rfl, fun i hi => ⟨g, 0, rfl, (Array.getElem?_eq_some_iff.1 hg).1, ?_⟩⟩
    have := World.ownsRow.cellAt h i (by omega)
    rw [Nat.zero_add, this]
    simp [strVs, hi]
theorem OwnS.on {base : Nat} {W W' : World} {v : Value} {zs : List ByteArray} (h : OwnS base W v zs) (hb : Below W.heap.size W W') : OwnS base W' v zs := h.kept (grown_of_below hb) (by cases v.ownBlock <;> simp)
theorem OwnS.set {base : Nat} {W : World} {v x : Value} {zs : List ByteArray} {B o : Nat} (h : OwnS base W v zs) (hB : B < base) : OwnS base (W.setCell ⟨B, o, none⟩ x) v zs := h.kept (grownBy_setCell _ _ _ _) (.inr fun e => by have := (h.lt B e).1; omega)
theorem OwnS.mono {base base' : Nat} {W : World} {v : Value} {zs : List ByteArray} (h : OwnS base W v zs) (hb : base' ≤ base) : OwnS base' W v zs := ⟨h.1, h.2.imp id fun ⟨g, cap, cur, hv, hb', rest⟩ => ⟨g, cap, cur, hv, Nat.le_trans hb hb', rest⟩⟩
set_option linter.unusedSimpArgs false
set_option linter.unusedVariables false

theorem StrsAt.get {n b off k : Nat} {W : World} {zs : List ByteArray} {x : ByteArray} (h : StrsAt n W (some ⟨b, off, none⟩) zs) (hx : zs[k]? = some x) : W.cell? ⟨b, off + k, none⟩ = some (.string x) := by
  obtain ⟨hk, rfl⟩ := List.getElem?_eq_some_iff.1 hx
  obtain ⟨b', off', e, _, hc⟩ := h k hk
  simp at e; obtain ⟨rfl, rfl⟩ := e
  exact hc
theorem OwnS.at' {base n c : Nat} {a : Option Addr} {W : World} {zs : List ByteArray} (h : OwnS base W (.slice a n c) zs) : StrsAt W.heap.size W a zs := by
  obtain ⟨a', c', e, hi⟩ := h.form
  simp only [Value.slice.injEq] at e
  rw [e.1]; exact hi
set_option maxRecDepth 100000 in
set_option maxHeartbeats 1000000 in
theorem clonS_any (a : Option Addr) (cap : Nat) (zs : List ByteArray) (hlen : zs.length ≤ 1000) (w : World) (hI : StrsAt w.heap.size w a zs) :
    Calls Tryd.prog 31 #[.slice a zs.length cap] w fun e w' => ∃ v, e = .returned v ∧ OwnS w.heap.size w' v zs ∧ Below w.heap.size w w' := by
  cases a with
  | none =>
    have h0 : zs = [] := by
      match zs, hI with
      | [], _ => rfl
      | x :: l, hI => obtain ⟨b, off, e, _⟩ := hI 0 (by simp); cases e
    subst h0
    clear hI
    have heq := fun (w : World) (a : Option Addr) (l c : Nat) => Lib.run_eql_slice_nil (P := Tryd.prog) w 25 _ a l c 0 0 Tryd.underlying25
    go_enter Tryd.func31, Tryd.ntmps31
    go_wp2
    go_ret
    exact ⟨_, rfl, World.ownsRow_nil _ _ _ _, Below.refl _ _⟩
  | some ad =>
    obtain ⟨i0, hi0, hz0, hz1, hz2⟩ := info_parts info9
    have hn : ∀ X : Obj, ∀ j u, (strVs zs)[j]? = some u → (w.alloc X).cell? (ad.add j) = some u := fun X j u hj => by
      have hjl : j < zs.length := by have := (List.getElem?_eq_some_iff.1 hj).1; simpa using this
      obtain ⟨b, off, e, hb, hc⟩ := hI j hjl
      simp at e; subst e
      have he : u = Value.string zs[j] := by simpa [strVs, hjl] using hj.symm
      rw [add_at, he]
      exact keep_alloc X hc
    have h1c : ∀ u ∈ strVs zs, u.oneCell' = true := fun u hu => by
      obtain ⟨z, _, rfl⟩ := List.mem_map.1 hu
      rfl
    have hl : (strVs zs).length = zs.length * 1 := by simp
    have HN := Lib.hid hn
    have HC := Lib.hid h1c
    have HL := Lib.hid hl
    clear hn h1c hl hI
    generalize hM : zs.length = M at *
    have HM := Lib.hid hM
    clear hM
    have heq := fun (w : World) (a : Option Addr) (l c : Nat) => Lib.run_eql_slice_nil (P := Tryd.prog) w 25 _ a l c 0 0 Tryd.underlying25
    go_enter Tryd.func31, Tryd.ntmps31
    go_wp2_with (refine wpList_append_own_at _ rfl _ _ _ rfl w.heap.size 9 i0 _ 1 16 Tryd.underlying25 hi0 hz0 hz1 hz2 rfl (by omega) _ 0 [] rfl (World.ownsRow_lit w #[] 0 (Nat.le_refl _) (by simp [maxLen]) rfl) ad M cap (strVs zs) rfl HL.out (HN.out _) HC.out (by simp [maxLen]; omega) (by omega) (by simp) ?_; intro v1 w1 hown hgrow hnil hat)
    have HO := Lib.hid hown
    have HG := Lib.hid hgrow
    clear hown hgrow hnil hat
    go_wp2
    go_ret
    refine ⟨_, rfl, ?_, ?_⟩
    · have := HO.out
      rw [Nat.zero_add, List.nil_append, ← HM.out] at this
      exact this
    · exact ((Below.refl _ w).alloc (Nat.le_refl _) _).grown HG.out (by simp) (fun r e => Nat.le_of_eq (Option.some.inj e))

end Go.Proofs.YtgceecfjammnaaaDoor.L16

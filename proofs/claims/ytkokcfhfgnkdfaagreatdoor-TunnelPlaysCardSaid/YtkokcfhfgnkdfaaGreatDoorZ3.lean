/- EA, EB, EC, EW, It -/
import Derived.Test.YtkokcfhfgnkdfaaGreatDoorZ0
import Derived.WalkKit
import Derived.LaidEql
import Derived.Stop.Asserts
import Derived.RowKitTokens
set_option linter.unusedVariables false
set_option linter.unusedSimpArgs false
/- errors.As, where the target is a variable of the fault's own type: its contract. -/
namespace Go.Proofs.YtkokcfhfgnkdfaaGreatDoor
open Go.RowKit Go.Extern.Stop Go.Stop Go.Extern

theorem valueOf63 (t : Addr) (w : World) : (ReflectliteValue.unpack (.iface 105 (.pointer (some t)))).run Tryz.prog w
    = .ok (.agg #[.pointer (some ⟨1, 105, none⟩), .pointer (some ⟨w.heap.size, 0, none⟩), .int .u64 150]) (w.alloc (.cells #[.pointer (some t)] 105)) := by kernel_rfl
theorem type63 (a : Addr) (w : World) : (ReflectliteValue.methodAny (ReflectliteValue.valueError "reflectlite.Value.Type" 0) (fun t _ _ _ => ReflectliteType.toType t) #[.agg #[.pointer (some ⟨1, 105, none⟩), .pointer (some a), .int .u64 150]]).run Tryz.prog w
    = .ok (.iface 161 (.agg #[.pointer (some ⟨1, 105, none⟩)])) w := by kernel_rfl
theorem methodKind (h : Value) (w : World) : (Go.method 319 161 (.agg #[h]) "Kind").run Tryz.prog w = .ok (143, h) w := by kernel_rfl
theorem kind63 (w : World) : ((ReflectliteType.abiMethod fun t => (fun a : Nat => Value.int IntKind.u8 (a : Int)) <$> Rtype.kind t) #[.pointer (some ⟨1, 105, none⟩)]).run Tryz.prog w = .ok (.int .u8 22) w := by kernel_rfl
theorem kind61 (w : World) : ((ReflectliteType.abiMethod fun t => (fun a : Nat => Value.int IntKind.u8 (a : Int)) <$> Rtype.kind t) #[.pointer (some ⟨1, 103, none⟩)]).run Tryz.prog w = .ok (.int .u8 25) w := by kernel_rfl

theorem rlm (z : Sem Value) (f : TypeId → Addr → Nat → Nat → Sem Value) (v : Value) :
    ReflectliteValue.method z f #[v] = (do match ← ReflectliteValue.parts v with | none => z | some (t, a, fl) => f t a fl (fl % 32)) := rfl
theorem parts63 (a : Addr) (w : World) : (ReflectliteValue.parts (.agg #[.pointer (some ⟨1, 105, none⟩), .pointer (some a), .int .u64 150])).run Tryz.prog w = .ok (some (105, a, 150)) w := by kernel_rfl
theorem isNil63 (a p : Addr) (W : World) (ha : W.cell? a = some (.pointer (some p))) :
    (ReflectliteValue.method (ReflectliteValue.valueError "reflectlite.Value.IsNil" 0) ReflectliteValue.isNil #[.agg #[.pointer (some ⟨1, 105, none⟩), .pointer (some a), .int .u64 150]]).run Tryz.prog W = .ok (.bool false) W := by
  rw [rlm]
  simp only [Sem.run_bind, parts63, Result.andThen]
  simp [ReflectliteValue.isNil, loadVar, isAgg, underlying, Tryz.underlying105, ha, Result.andThen]

theorem methodElem (h : Value) (w : World) : (Go.method 319 161 (.agg #[h]) "Elem").run Tryz.prog w = .ok (155, .agg #[h]) w := by kernel_rfl
theorem methodImplements (h : Value) (w : World) : (Go.method 319 161 (.agg #[h]) "Implements").run Tryz.prog w = .ok (156, .agg #[h]) w := by kernel_rfl
theorem methodAssignableTo (h : Value) (w : World) : (Go.method 319 161 (.agg #[h]) "AssignableTo").run Tryz.prog w = .ok (153, .agg #[h]) w := by kernel_rfl
theorem elem63 (w : World) : (ReflectliteType.method ReflectliteType.elem #[.agg #[.pointer (some ⟨1, 105, none⟩)]]).run Tryz.prog w = .ok (.iface 161 (.agg #[.pointer (some ⟨1, 103, none⟩)])) w := by kernel_rfl
theorem implements61 (w : World) : (ReflectliteType.relation "Implements" ReflectliteType.implements_ #[.agg #[.pointer (some ⟨1, 103, none⟩)], .iface 161 (.agg #[.pointer (some ⟨1, 78, none⟩)])]).run Tryz.prog w = .ok (.bool true) w := by kernel_rfl
theorem typeOf61 (v : Value) (w : World) : (ReflectliteType.typeOf #[.iface 103 v]).run Tryz.prog w = .ok (.iface 161 (.agg #[.pointer (some ⟨1, 103, none⟩)])) w := by kernel_rfl
theorem assignable61 (w : World) : (ReflectliteType.relation "AssignableTo" ReflectliteType.assignableTo #[.agg #[.pointer (some ⟨1, 103, none⟩)], .iface 161 (.agg #[.pointer (some ⟨1, 103, none⟩)])]).run Tryz.prog w = .ok (.bool true) w := by kernel_rfl
theorem valueOf61 (e : Int) (w : World) : (ReflectliteValue.unpack (.iface 103 (.agg #[.int .i64 e]))).run Tryz.prog w
    = .ok (.agg #[.pointer (some ⟨1, 103, none⟩), .pointer (some ⟨w.heap.size, 0, none⟩), .int .u64 153]) (w.alloc (.cells #[.int .i64 e] 103)) := by kernel_rfl

theorem elemOf63 (w : World) : (Rtype.elem? 105).run Tryz.prog w = .ok (some 103) w := by kernel_rfl
theorem mk61 (p : Addr) (w : World) : (ReflectliteValue.mk 103 p ReflectliteValue.flagAddr).run Tryz.prog w = .ok (.agg #[.pointer (some ⟨1, 103, none⟩), .pointer (some p), .int .u64 409]) w := by kernel_rfl
theorem elemV63 (a p : Addr) (W : World) (ha : W.cell? a = some (.pointer (some p))) :
    (ReflectliteValue.method (ReflectliteValue.valueError "reflectlite.Value.Elem" 0) ReflectliteValue.elem #[.agg #[.pointer (some ⟨1, 105, none⟩), .pointer (some a), .int .u64 150]]).run Tryz.prog W
      = .ok (.agg #[.pointer (some ⟨1, 103, none⟩), .pointer (some p), .int .u64 409]) W := by
  rw [rlm]
  simp only [Sem.run_bind, parts63, Result.andThen]
  simp [ReflectliteValue.elem, loadVar, isAgg, underlying, Tryz.underlying105, ha, Result.andThen, elemOf63, mk61]
theorem rls (v x : Value) : ReflectliteValue.set #[v, x] = (do
    let (some (dst, a, fl), some (src, b, _)) := (← ReflectliteValue.parts v, ← ReflectliteValue.parts x)
      | unsupported (.noEntry "extern/(internal/reflectlite.Value).Set.zeroValue")
    if fl / ReflectliteValue.flagAddr % 2 == 0 then unsupported (.noEntry "extern/(internal/reflectlite.Value).Set.unaddressable")
    let val ← loadVar src b
    if ← Rtype.directlyAssignable dst src then storeVar dst a val
    else if ← Rtype.implements dst src then
      if (← Rtype.kind src) == 20 then
        match val with
        | .nilIface => unsupported (.noEntry "extern/reflectlite: a nil value of one interface type handed on as a value of another")
        | _ => storeVar dst a val
      else storeVar dst a (.iface src val)
    else panicString ("reflectlite.Set: value of type " ++ (← Rtype.spelt src) ++ " is not assignable to type " ++ (← Rtype.spelt dst))
    pure (.tuple #[])) := rfl
theorem parts61a (a : Addr) (w : World) : (ReflectliteValue.parts (.agg #[.pointer (some ⟨1, 103, none⟩), .pointer (some a), .int .u64 409])).run Tryz.prog w = .ok (some (103, a, 409)) w := by kernel_rfl
theorem parts61 (a : Addr) (w : World) : (ReflectliteValue.parts (.agg #[.pointer (some ⟨1, 103, none⟩), .pointer (some a), .int .u64 153])).run Tryz.prog w = .ok (some (103, a, 153)) w := by kernel_rfl
theorem direct61 (w : World) : (Rtype.directlyAssignable 103 103).run Tryz.prog w = .ok true w := by kernel_rfl
theorem size61 (w : World) : (sizeOf 103).run Tryz.prog w = .ok 1 w := by kernel_rfl
theorem set61 (ta b : Addr) (e : Int) (old : Value) (W : World) (hb : W.cell? b = some (.int .i64 e)) (ht : W.cell? ta = some old) (hf : W.frozen? ta = false) :
    (ReflectliteValue.set #[.agg #[.pointer (some ⟨1, 103, none⟩), .pointer (some ta), .int .u64 409], .agg #[.pointer (some ⟨1, 103, none⟩), .pointer (some b), .int .u64 153]]).run Tryz.prog W
      = .ok (.tuple #[]) (W.setCell ta (.int .i64 e)) := by
  rw [rls]
  simp only [Sem.run_bind, parts61a, parts61, Result.andThen]
  have hl : (loadVar 103 b).run Tryz.prog W = .ok (.agg #[.int .i64 e]) W := by
    simp [loadVar, isAgg, underlying, Tryz.underlying103, Result.andThen, loadCells, loadCellsFrom, Addr.add, hb]
  simp [ReflectliteValue.flagAddr, hl, Result.andThen, direct61, storeVar, Value.cells, storeCells, Addr.add]
  rw [run_store Tryz.prog W ta _ _ (by rfl)]
  simp [ht, hf]
end Go.Proofs.YtkokcfhfgnkdfaaGreatDoor

/- errors.As, where the target is a variable of the fault's own type: nil, and a fault. -/
namespace Go.Proofs.YtkokcfhfgnkdfaaGreatDoor
open Go.RowKit Go.Extern.Stop Go.Stop Go.Extern

/-- errors.As(nil, target). -/
theorem as_nil (t : Value) (w : World) :
    Calls Tryz.prog 58 #[.nilIface, t] w fun e w' => e = .returned (.bool false) ∧ w' = w := by
  go_enter Tryz.func58, Tryz.ntmps58
  go_wp2
  go_ret
  exact ⟨rfl, rfl⟩

set_option maxRecDepth 100000 in
set_option maxHeartbeats 4000000 in
theorem as_hit (e : Int) (t : Addr) (old : Value) (w : World) (hg : w.cell? ⟨0, 0, none⟩ = some (.iface 161 (.agg #[.pointer (some ⟨1, 78, none⟩)]))) (ht0 : w.cell? t = some old) (hf0 : w.frozen? t = false) :
    Calls Tryz.prog 58 #[.iface 103 (.agg #[.int .i64 e]), .iface 105 (.pointer (some t))] w fun ev w' => ev = .returned (.bool true) ∧ w' = ((((w.alloc (.cells #[.pointer (some t)] 105)).alloc (.cells #[.pointer (some ⟨1, 105, none⟩), .pointer (some ⟨w.heap.size, 0, none⟩), .int .u64 150] 132)).alloc (.cells #[.pointer (some ⟨1, 105, none⟩), .pointer (some ⟨w.heap.size, 0, none⟩), .int .u64 150] 132)).alloc (.cells #[.int .i64 e] 103)).setCell t (.int .i64 e) := by
  have g6 := @run_callFunc_extern Tryz.prog 85 _ (fun args => ReflectliteValue.unpack (args.getD 0 (.tuple #[]))) Tryz.func85 (by kernel_rfl) (by kernel_rfl) (by kernel_rfl) (by kernel_rfl)
  have g7 := @run_callFunc_extern Tryz.prog 86 _ (ReflectliteValue.methodAny (ReflectliteValue.valueError "reflectlite.Value.Type" 0) (fun t _ _ _ => ReflectliteType.toType t)) Tryz.func86 (by kernel_rfl) (by kernel_rfl) (by kernel_rfl) (by kernel_rfl)
  have g8 := @run_callFunc_extern Tryz.prog 87 _ (ReflectliteValue.method (ReflectliteValue.valueError "reflectlite.Value.IsNil" 0) ReflectliteValue.isNil) Tryz.func87 (by kernel_rfl) (by kernel_rfl) (by kernel_rfl) (by kernel_rfl)
  have g27 := @run_callFunc_extern Tryz.prog 143 _ (ReflectliteType.abiMethod fun t => do pure (.int .u8 (← Rtype.kind t))) Tryz.func143 (by kernel_rfl) (by kernel_rfl) (by kernel_rfl) (by kernel_rfl)
  have g37 := @run_callFunc_extern Tryz.prog 155 _ (ReflectliteType.method ReflectliteType.elem) Tryz.func155 (by kernel_rfl) (by kernel_rfl) (by kernel_rfl) (by kernel_rfl)
  have g38 := @run_callFunc_extern Tryz.prog 156 _ (ReflectliteType.relation "Implements" ReflectliteType.implements_) Tryz.func156 (by kernel_rfl) (by kernel_rfl) (by kernel_rfl) (by kernel_rfl)
  have g10 := @run_callFunc_extern Tryz.prog 115 _ ReflectliteType.typeOf Tryz.func115 (by kernel_rfl) (by kernel_rfl) (by kernel_rfl) (by kernel_rfl)
  have g35 := @run_callFunc_extern Tryz.prog 153 _ (ReflectliteType.relation "AssignableTo" ReflectliteType.assignableTo) Tryz.func153 (by kernel_rfl) (by kernel_rfl) (by kernel_rfl) (by kernel_rfl)
  have g11 := @run_callFunc_extern Tryz.prog 116 _ (ReflectliteValue.method (ReflectliteValue.valueError "reflectlite.Value.Elem" 0) ReflectliteValue.elem) Tryz.func116 (by kernel_rfl) (by kernel_rfl) (by kernel_rfl) (by kernel_rfl)
  have g12 := @run_callFunc_extern Tryz.prog 117 _ ReflectliteValue.set Tryz.func117 (by kernel_rfl) (by kernel_rfl) (by kernel_rfl) (by kernel_rfl)
  have tO := typeOf61
  have mA := methodAssignableTo
  have a25 := assignable61
  have v25 := valueOf61
  have f6 := valueOf63
  have f7 := type63
  have mK := methodKind
  have mE := methodElem
  have mI := methodImplements
  have k27 := kind63
  have k25 := kind61
  have e27 := elem63
  have i25 := implements61
  have n8 := isNil63 ⟨w.heap.size, 0, none⟩ t ((w.alloc (.cells #[.pointer (some t)] 105)).alloc (.cells #[.pointer (some ⟨1, 105, none⟩), .pointer (some ⟨w.heap.size, 0, none⟩), .int .u64 150] 132)) (by simp)
  have hlt : 0 < w.heap.size := blt hg
  have hg2 : ((w.alloc (.cells #[.pointer (some t)] 105)).alloc (.cells #[.pointer (some ⟨1, 105, none⟩), .pointer (some ⟨w.heap.size, 0, none⟩), .int .u64 150] 132)).cell? ⟨0, 0, none⟩ = some (.iface 161 (.agg #[.pointer (some ⟨1, 78, none⟩)])) := by
    rw [World.cell?_alloc_lt _ _ ⟨0, 0, none⟩ (by rw [World.size_alloc]; exact Nat.lt_succ_of_lt hlt), World.cell?_alloc_lt _ _ ⟨0, 0, none⟩ hlt]; exact hg
  have htl : t.block < w.heap.size := by
    rcases Nat.lt_or_ge t.block w.heap.size with h | h
    · exact h
    · simp [World.cell?, Array.getElem?_eq_none h] at ht0
  have el := elemV63 ⟨w.heap.size, 0, none⟩ t (((w.alloc (.cells #[.pointer (some t)] 105)).alloc (.cells #[.pointer (some ⟨1, 105, none⟩), .pointer (some ⟨w.heap.size, 0, none⟩), .int .u64 150] 132)).alloc (.cells #[.pointer (some ⟨1, 105, none⟩), .pointer (some ⟨w.heap.size, 0, none⟩), .int .u64 150] 132)) (by rw [World.cell?_alloc_lt _ _ ⟨w.heap.size, 0, none⟩ (by simp; omega)]; simp)
  have st := set61 t ⟨w.heap.size + 1 + 1 + 1, 0, none⟩ e old ((((w.alloc (.cells #[.pointer (some t)] 105)).alloc (.cells #[.pointer (some ⟨1, 105, none⟩), .pointer (some ⟨w.heap.size, 0, none⟩), .int .u64 150] 132)).alloc (.cells #[.pointer (some ⟨1, 105, none⟩), .pointer (some ⟨w.heap.size, 0, none⟩), .int .u64 150] 132)).alloc (.cells #[.int .i64 e] 103))
    (by rw [World.cell?_alloc_at _ _ _ _ (by simp)]; rfl)
    (by rw [World.cell?_alloc_lt _ _ t (by simp; omega), World.cell?_alloc_lt _ _ t (by simp; omega), World.cell?_alloc_lt _ _ t (by simp; omega), World.cell?_alloc_lt _ _ t htl]; exact ht0)
    (by rw [World.frozen?_alloc_old _ _ t (by simp; omega), World.frozen?_alloc_old _ _ t (by simp; omega), World.frozen?_alloc_old _ _ t (by simp; omega), World.frozen?_alloc_old _ _ t (Nat.ne_of_lt htl)]; exact hf0)
  go_enter Tryz.func58, Tryz.ntmps58
  go_wp2
  refine wp_loop_rounds 1 ?_
  rw [rounds_succ]
  go_wp2
  go_ret
  exact ⟨rfl, rfl⟩
end Go.Proofs.YtkokcfhfgnkdfaaGreatDoor

/- The faults' own makers (where errors.Is is not reached). -/
namespace Go.Proofs.YtkokcfhfgnkdfaaGreatDoor
open Go.RowKit Go.Extern.Stop Go.Stop Go.Extern

theorem of_c (w : World) (c : Int) (hc : (c == 0) = false) : Calls Tryz.prog 53 #[.int .i64 c] w fun x w' => x = .returned (.iface 103 (.agg #[.int .i64 c])) ∧ w = w' := by
  go_enter Tryz.func53, Tryz.ntmps53
  go_wp2
  go_ret
  exact ⟨rfl, rfl⟩
/-- What a check's failing leaves. -/
def errV (b : Bool) (c : Int) : Value := if b = true then .nilIface else .iface 103 (.agg #[.int .i64 c])
theorem unless_c (w : World) (b : Bool) (c : Int) : Calls Tryz.prog 47 #[.bool b, .int .i64 c] w fun x w' => x = .returned (errV b c) ∧ w = w' := by
  cases b
  all_goals
    go_enter Tryz.func47, Tryz.ntmps47
    go_wp2
    go_ret
    exact ⟨rfl, rfl⟩
set_option maxRecDepth 100000 in
set_option maxHeartbeats 4000000 in
theorem no_c (w : World) (c : Int) (hg : w.cell? ⟨0, 0, none⟩ = some (.iface 161 (.agg #[.pointer (some ⟨1, 78, none⟩)]))) :
    Calls Tryz.prog 29 #[.iface 103 (.agg #[.int .i64 c])] w fun x w' => x = .returned (.int .i64 c) ∧ Below w.heap.size w w' := by
  have hg2 : (w.alloc (.cells #[.int .i64 0] 103)).cell? ⟨0, 0, none⟩ = some (.iface 161 (.agg #[.pointer (some ⟨1, 78, none⟩)])) := keep_alloc _ hg
  have HA := Lib.hid (as_hit c ⟨w.heap.size, 0, none⟩ (.int .i64 0) (w.alloc (.cells #[.int .i64 0] 103)) hg2 (by go_simp) (by go_simp))
  clear hg2 hg
  go_enter Tryz.func29, Tryz.ntmps29
  go_wp2_with fail
  refine HA.out.mono ?_
  rintro x w1 ⟨rfl, rfl⟩
  go_wp2
  go_ret
  exact ⟨rfl, bal (bal (bal (bal (below_alloc _ _) _) _) _) _⟩
end Go.Proofs.YtkokcfhfgnkdfaaGreatDoor

/- errors.As and fault.No at a fault in a wrapper; fault.Within. -/
namespace Go.Proofs.YtkokcfhfgnkdfaaGreatDoor
open Go.RowKit Go.Extern.Stop Go.Stop Go.Extern

theorem typeOfIn (v : Value) (w : World) : (ReflectliteType.typeOf #[.iface 128 v]).run Tryz.prog w = .ok (.iface 161 (.agg #[.pointer (some ⟨1, 128, none⟩)])) w := by kernel_rfl
theorem assignableIn (w : World) : (ReflectliteType.relation "AssignableTo" ReflectliteType.assignableTo #[.agg #[.pointer (some ⟨1, 128, none⟩)], .iface 161 (.agg #[.pointer (some ⟨1, 103, none⟩)])]).run Tryz.prog w = .ok (.bool false) w := by kernel_rfl
theorem methodUnwrap (a b : Value) (w : World) : (Go.method 319 128 (.agg #[a, b]) "Unwrap").run Tryz.prog w = .ok (148, .agg #[a, b]) w := by kernel_rfl
set_option maxRecDepth 100000 in
set_option maxHeartbeats 4000000 in
theorem as_in (p : ByteArray) (e : Int) (t : Addr) (old : Value) (w : World) (hg : w.cell? ⟨0, 0, none⟩ = some (.iface 161 (.agg #[.pointer (some ⟨1, 78, none⟩)]))) (ht0 : w.cell? t = some old) (hf0 : w.frozen? t = false) :
    Calls Tryz.prog 58 #[.iface 128 (.agg #[.string p, .iface 103 (.agg #[.int .i64 e])]), .iface 105 (.pointer (some t))] w fun ev w' => ev = .returned (.bool true) ∧ w' = (((((w.alloc (.cells #[.pointer (some t)] 105)).alloc (.cells #[.pointer (some ⟨1, 105, none⟩), .pointer (some ⟨w.heap.size, 0, none⟩), .int .u64 150] 132)).alloc (.cells #[.pointer (some ⟨1, 105, none⟩), .pointer (some ⟨w.heap.size, 0, none⟩), .int .u64 150] 132)).alloc (.cells #[.string p, .iface 103 (.agg #[.int .i64 e])] 128)).alloc (.cells #[.int .i64 e] 103)).setCell t (.int .i64 e) := by
  have g6 := @run_callFunc_extern Tryz.prog 85 _ (fun args => ReflectliteValue.unpack (args.getD 0 (.tuple #[]))) Tryz.func85 (by kernel_rfl) (by kernel_rfl) (by kernel_rfl) (by kernel_rfl)
  have g7 := @run_callFunc_extern Tryz.prog 86 _ (ReflectliteValue.methodAny (ReflectliteValue.valueError "reflectlite.Value.Type" 0) (fun t _ _ _ => ReflectliteType.toType t)) Tryz.func86 (by kernel_rfl) (by kernel_rfl) (by kernel_rfl) (by kernel_rfl)
  have g8 := @run_callFunc_extern Tryz.prog 87 _ (ReflectliteValue.method (ReflectliteValue.valueError "reflectlite.Value.IsNil" 0) ReflectliteValue.isNil) Tryz.func87 (by kernel_rfl) (by kernel_rfl) (by kernel_rfl) (by kernel_rfl)
  have g27 := @run_callFunc_extern Tryz.prog 143 _ (ReflectliteType.abiMethod fun t => do pure (.int .u8 (← Rtype.kind t))) Tryz.func143 (by kernel_rfl) (by kernel_rfl) (by kernel_rfl) (by kernel_rfl)
  have g37 := @run_callFunc_extern Tryz.prog 155 _ (ReflectliteType.method ReflectliteType.elem) Tryz.func155 (by kernel_rfl) (by kernel_rfl) (by kernel_rfl) (by kernel_rfl)
  have g38 := @run_callFunc_extern Tryz.prog 156 _ (ReflectliteType.relation "Implements" ReflectliteType.implements_) Tryz.func156 (by kernel_rfl) (by kernel_rfl) (by kernel_rfl) (by kernel_rfl)
  have g10 := @run_callFunc_extern Tryz.prog 115 _ ReflectliteType.typeOf Tryz.func115 (by kernel_rfl) (by kernel_rfl) (by kernel_rfl) (by kernel_rfl)
  have g35 := @run_callFunc_extern Tryz.prog 153 _ (ReflectliteType.relation "AssignableTo" ReflectliteType.assignableTo) Tryz.func153 (by kernel_rfl) (by kernel_rfl) (by kernel_rfl) (by kernel_rfl)
  have g11 := @run_callFunc_extern Tryz.prog 116 _ (ReflectliteValue.method (ReflectliteValue.valueError "reflectlite.Value.Elem" 0) ReflectliteValue.elem) Tryz.func116 (by kernel_rfl) (by kernel_rfl) (by kernel_rfl) (by kernel_rfl)
  have g12 := @run_callFunc_extern Tryz.prog 117 _ ReflectliteValue.set Tryz.func117 (by kernel_rfl) (by kernel_rfl) (by kernel_rfl) (by kernel_rfl)
  have tO := typeOf61
  have tI := typeOfIn
  have aI := assignableIn
  have a1 := fun xT v W => run_typeAssert_lacksB (P := Tryz.prog) (t := 128) (asserted := 166) (z := .nilIface) Tryz.underlying166 (by kernel_rfl) (by kernel_rfl) v xT W
  have a2 := fun xT v W => run_typeAssert_hasB (P := Tryz.prog) (t := 128) (asserted := 169) Tryz.underlying169 (by kernel_rfl) v xT W
  have mU := methodUnwrap
  have mA := methodAssignableTo
  have a25 := assignable61
  have v25 := valueOf61
  have f6 := valueOf63
  have f7 := type63
  have mK := methodKind
  have mE := methodElem
  have mI := methodImplements
  have k27 := kind63
  have k25 := kind61
  have e27 := elem63
  have i25 := implements61
  have n8 := isNil63 ⟨w.heap.size, 0, none⟩ t ((w.alloc (.cells #[.pointer (some t)] 105)).alloc (.cells #[.pointer (some ⟨1, 105, none⟩), .pointer (some ⟨w.heap.size, 0, none⟩), .int .u64 150] 132)) (by simp)
  have hlt : 0 < w.heap.size := blt hg
  have hg2 : ((w.alloc (.cells #[.pointer (some t)] 105)).alloc (.cells #[.pointer (some ⟨1, 105, none⟩), .pointer (some ⟨w.heap.size, 0, none⟩), .int .u64 150] 132)).cell? ⟨0, 0, none⟩ = some (.iface 161 (.agg #[.pointer (some ⟨1, 78, none⟩)])) := by
    rw [World.cell?_alloc_lt _ _ ⟨0, 0, none⟩ (by rw [World.size_alloc]; exact Nat.lt_succ_of_lt hlt), World.cell?_alloc_lt _ _ ⟨0, 0, none⟩ hlt]; exact hg
  have htl : t.block < w.heap.size := by
    rcases Nat.lt_or_ge t.block w.heap.size with h | h
    · exact h
    · simp [World.cell?, Array.getElem?_eq_none h] at ht0
  have el := elemV63 ⟨w.heap.size, 0, none⟩ t ((((w.alloc (.cells #[.pointer (some t)] 105)).alloc (.cells #[.pointer (some ⟨1, 105, none⟩), .pointer (some ⟨w.heap.size, 0, none⟩), .int .u64 150] 132)).alloc (.cells #[.pointer (some ⟨1, 105, none⟩), .pointer (some ⟨w.heap.size, 0, none⟩), .int .u64 150] 132)).alloc (.cells #[.string p, .iface 103 (.agg #[.int .i64 e])] 128)) (by rw [World.cell?_alloc_lt _ _ ⟨w.heap.size, 0, none⟩ (by simp; omega), World.cell?_alloc_lt _ _ ⟨w.heap.size, 0, none⟩ (by simp; omega)]; simp)
  have st := set61 t ⟨w.heap.size + 1 + 1 + 1 + 1, 0, none⟩ e old (((((w.alloc (.cells #[.pointer (some t)] 105)).alloc (.cells #[.pointer (some ⟨1, 105, none⟩), .pointer (some ⟨w.heap.size, 0, none⟩), .int .u64 150] 132)).alloc (.cells #[.pointer (some ⟨1, 105, none⟩), .pointer (some ⟨w.heap.size, 0, none⟩), .int .u64 150] 132)).alloc (.cells #[.string p, .iface 103 (.agg #[.int .i64 e])] 128)).alloc (.cells #[.int .i64 e] 103))
    (by rw [World.cell?_alloc_at _ _ _ _ (by simp)]; rfl)
    (by rw [World.cell?_alloc_lt _ _ t (by simp; omega), World.cell?_alloc_lt _ _ t (by simp; omega), World.cell?_alloc_lt _ _ t (by simp; omega), World.cell?_alloc_lt _ _ t (by simp; omega), World.cell?_alloc_lt _ _ t htl]; exact ht0)
    (by rw [World.frozen?_alloc_old _ _ t (by simp; omega), World.frozen?_alloc_old _ _ t (by simp; omega), World.frozen?_alloc_old _ _ t (by simp; omega), World.frozen?_alloc_old _ _ t (by simp; omega), World.frozen?_alloc_old _ _ t (Nat.ne_of_lt htl)]; exact hf0)
  go_enter Tryz.func58, Tryz.ntmps58
  go_wp2
  refine wp_loop_rounds 2 ?_
  rw [rounds_succ]
  go_wp2
  rw [rounds_succ]
  go_wp2
  go_ret
  exact ⟨rfl, rfl⟩
/-- A fault in a wrapper. -/
def inV (p : ByteArray) (c : Int) : Value := .iface 128 (.agg #[.string p, .iface 103 (.agg #[.int .i64 c])])
theorem within_c (p : ByteArray) (c : Int) (w : World) : Calls Tryz.prog 57 #[.string p, .iface 103 (.agg #[.int .i64 c])] w fun x w' => x = .returned (.iface 128 (.agg #[.string p, .iface 103 (.agg #[.int .i64 c])])) ∧ w = w' := by
  go_enter Tryz.func57, Tryz.ntmps57
  go_wp2
  go_ret
  exact ⟨rfl, rfl⟩
theorem within_nil (p : ByteArray) (w : World) : Calls Tryz.prog 57 #[.string p, .nilIface] w fun x w' => x = .returned .nilIface ∧ w = w' := by
  go_enter Tryz.func57, Tryz.ntmps57
  go_wp2
  go_ret
  exact ⟨rfl, rfl⟩
set_option maxRecDepth 100000 in
set_option maxHeartbeats 4000000 in
theorem no_in (w : World) (p : ByteArray) (c : Int) (hg : w.cell? ⟨0, 0, none⟩ = some (.iface 161 (.agg #[.pointer (some ⟨1, 78, none⟩)]))) :
    Calls Tryz.prog 29 #[.iface 128 (.agg #[.string p, .iface 103 (.agg #[.int .i64 c])])] w fun x w' => x = .returned (.int .i64 c) ∧ Below w.heap.size w w' := by
  have hg2 : (w.alloc (.cells #[.int .i64 0] 103)).cell? ⟨0, 0, none⟩ = some (.iface 161 (.agg #[.pointer (some ⟨1, 78, none⟩)])) := keep_alloc _ hg
  have HA := Lib.hid (as_in p c ⟨w.heap.size, 0, none⟩ (.int .i64 0) (w.alloc (.cells #[.int .i64 0] 103)) hg2 (by go_simp) (by go_simp))
  clear hg2 hg
  go_enter Tryz.func29, Tryz.ntmps29
  go_wp2_with fail
  refine HA.out.mono ?_
  rintro x w1 ⟨rfl, rfl⟩
  go_wp2
  go_ret
  exact ⟨rfl, bal (bal (bal (bal (bal (below_alloc _ _) _) _) _) _) _⟩
theorem no_nil (w : World) : Calls Tryz.prog 29 #[.nilIface] w fun x w' => x = .returned (.int .i64 0) ∧ w = w' := by
  go_enter Tryz.func29, Tryz.ntmps29
  go_wp2
  go_ret
  exact ⟨rfl, rfl⟩
end Go.Proofs.YtkokcfhfgnkdfaaGreatDoor

/- A range over a function of any kind: the iterator may make and write memory of its own, the body may write what is the caller's and make more. -/
namespace Go.Proofs.YtkokcfhfgnkdfaaGreatDoor
open Go.RowKit

section
variable {F : Fence} {n : Nat} {P : Program} {b : Frame} {a : Act} {k : List Item} {cs : List Frame} {w : World} {Q : Exit → Act → World → Prop}

theorem stepR_scope {c : Code} : step P (lone (b.atR a (.code (.scope c) :: k)) cs w) = .next (lone (b.atR a (.code c :: .inScope c :: k)) cs w) :=
  step_lone_go (by simp [stepG, stepG.exec, Frame.atR])
theorem stepR_inScope {c : Code} : step P (lone (b.atR a (.inScope c :: k)) cs w) = .next (lone (b.atR a k) cs w) :=
  step_lone_go (by simp [stepG, stepG.exec, Frame.atR])

/-- A scope through which the run goes without a goto, inside a fence. -/
theorem wpIn_scope_straight {c : Code} (h : c.wpIn F n P (Exit.noGoto Q) a w) : (Code.scope c).wpIn F n P Q a w := by
  intro b k cs hro hb hr
  have h0 : (lone (b.atR a (.code (.scope c) :: k)) cs w).fenced P F := fenced_calm hb hr rfl
  obtain ⟨e, a₁, w₁, hq, harr⟩ := h b (.inScope c :: k) cs hro hb hr
  cases e with
  | normal => exact ⟨.normal, a₁, w₁, hq, .head h0 stepR_scope (StepsIn.trans harr (.one (fenced_calm hb hr rfl) stepR_inScope))⟩
  | exit id =>
    have hx : exitTo id (.inScope c :: k) = exitTo id k := by simp [exitTo]
    exact ⟨.exit id, a₁, w₁, hq, fun k' hk => .head h0 stepR_scope (harr.1 k' (by rw [hx]; exact hk)),
      fun hr' hk => let ⟨k₁, h1, h2⟩ := harr.2 hr' (by rw [hx]; exact hk); ⟨k₁, h1, .head h0 stepR_scope h2⟩⟩
  | goto l => exact hq.elim
  | ret => exact ⟨_, a₁, w₁, hq, .of_steps (.one h0 stepR_scope) harr⟩
  | panic ch => exact ⟨_, a₁, w₁, hq, .of_steps (.one h0 stepR_scope) harr⟩
  | outgrown => exact ⟨_, a₁, w₁, hq, .of_steps (.one h0 stepR_scope) harr⟩
end

/-- All that is not private lies as it lay. -/
structure Goes (Pv : Nat → Prop) (A B : World) : Prop where
  os : B.os = A.os
  tape : B.tape = A.tape
  output : B.output = A.output
  size : A.heap.size ≤ B.heap.size
  same : ∀ i, i < A.heap.size → ¬ Pv i → B.heap[i]? = A.heap[i]?
theorem Goes.refl (Pv : Nat → Prop) (A : World) : Goes Pv A A := ⟨rfl, rfl, rfl, Nat.le_refl _, fun _ _ _ => rfl⟩
theorem Goes.trans {Pv : Nat → Prop} {A B C : World} (h : Goes Pv A B) (k : Goes Pv B C) : Goes Pv A C :=
  ⟨k.os.trans h.os, k.tape.trans h.tape, k.output.trans h.output, Nat.le_trans h.size k.size, fun i hi hp => (k.same i (Nat.lt_of_lt_of_le hi h.size) hp).trans (h.same i hi hp)⟩
theorem Goes.of_below {Pv : Nat → Prop} {A B : World} (h : Below A.heap.size A B) : Goes Pv A B := ⟨h.os, h.tape, h.output, h.size, fun i hi _ => h.block i hi⟩
theorem Goes.of_grown {Pv : Nat → Prop} {A B : World} {row : Option Nat} (h : A.grownBy B row) (hr : ∀ r, row = some r → Pv r) : Goes Pv A B :=
  ⟨h.os, h.tape, h.output, h.size, fun i hi hp => h.block i hi (fun e => hp (hr i e.symm))⟩
theorem Goes.mono {Pv Pv' : Nat → Prop} {A B : World} (h : Goes Pv A B) (hp : ∀ i, Pv i → Pv' i) : Goes Pv' A B := ⟨h.os, h.tape, h.output, h.size, fun i hi h' => h.same i hi (fun k => h' (hp i k))⟩
theorem Goes.putObj {Pv : Nat → Prop} (W : World) {l : Nat} (o : Obj) (hl : Pv l) : Goes Pv W (W.putObj l o) := Goes.of_grown (grownBy_putObj' W l o) (fun _ e => by cases e; exact hl)
theorem Goes.alloc (Pv : Nat → Prop) (W : World) (o : Obj) : Goes Pv W (W.alloc o) := Goes.of_below (below_alloc W o)
theorem Goes.obj {Pv : Nat → Prop} {A B : World} {i : Nat} {o : Obj} (h : Goes Pv A B) (hi : A.heap[i]? = some o) (hp : ¬ Pv i) : B.heap[i]? = some o := (h.same i (Array.getElem?_eq_some_iff.1 hi).1 hp).trans hi
theorem Goes.cell {Pv : Nat → Prop} {A B : World} {b o : Nat} {v : Value} (h : Goes Pv A B) (hc : A.cell? ⟨b, o, none⟩ = some v) (hp : ¬ Pv b) : B.cell? ⟨b, o, none⟩ = some v := (World.cell?_of_block (w := A) (h.same b (blt hc) hp)).trans hc
theorem Goes.frozen {Pv : Nat → Prop} {A B : World} {b o : Nat} {v : Value} (h : Goes Pv A B) (hc : A.cell? ⟨b, o, none⟩ = some v) (hp : ¬ Pv b) : B.frozen? ⟨b, o, none⟩ = A.frozen? ⟨b, o, none⟩ := World.frozen?_of_block (w := A) (h.same b (blt hc) hp)
theorem Goes.below {Pv : Nat → Prop} {w A B : World} (h : Goes Pv A B) (hb : Below w.heap.size w A) (hp : ∀ i, Pv i → w.heap.size ≤ i) : Below w.heap.size w B :=
  ⟨h.os.trans hb.os, h.tape.trans hb.tape, h.output.trans hb.output, Nat.le_trans hb.size h.size, fun i hi => (h.same i (Nat.lt_of_lt_of_le hi hb.size) (fun k => by have := hp i k; omega)).trans (hb.block i hi)⟩
/-- A row that is no private block is owned on. -/
theorem Goes.ownsRow {Pv : Nat → Prop} {A B : World} {base : Nat} {e : TypeId} {size : Nat} {v : Value} {k : Nat} {xs : List Value} (h : Goes Pv A B) (hr : A.ownsRow base e size v k xs) (hp : ∀ b, v.ownBlock = some b → ¬ Pv b) : B.ownsRow base e size v k xs := by
  rcases hr with ⟨h1, h2 | ⟨g, cap, cur, rfl, h3, h4, h5⟩⟩
  · exact ⟨h1, .inl h2⟩
  · exact ⟨h1, .inr ⟨g, cap, cur, rfl, h3, h.obj h4 (hp g rfl), h5⟩⟩

/-- All that is private lies as it lay. -/
structure Mid (Pv : Nat → Prop) (A B : World) : Prop where
  size : A.heap.size ≤ B.heap.size
  same : ∀ i, i < A.heap.size → Pv i → B.heap[i]? = A.heap[i]?
theorem Mid.refl (Pv : Nat → Prop) (A : World) : Mid Pv A A := ⟨Nat.le_refl _, fun _ _ _ => rfl⟩
theorem Mid.trans {Pv : Nat → Prop} {A B C : World} (h : Mid Pv A B) (k : Mid Pv B C) : Mid Pv A C := ⟨Nat.le_trans h.size k.size, fun i hi hp => (k.same i (Nat.lt_of_lt_of_le hi h.size) hp).trans (h.same i hi hp)⟩
theorem Mid.of_below {Pv : Nat → Prop} {A B : World} (h : Below A.heap.size A B) : Mid Pv A B := ⟨h.size, fun i hi _ => h.block i hi⟩
theorem Mid.of_grown {Pv : Nat → Prop} {A B : World} {row : Option Nat} (h : A.grownBy B row) (hr : ∀ r, row = some r → ¬ Pv r) : Mid Pv A B :=
  ⟨h.size, fun i hi hp => h.block i hi (fun e => hr i e.symm hp)⟩
theorem Mid.mono {Pv Pv' : Nat → Prop} {A B : World} (h : Mid Pv A B) (hp : ∀ i, Pv' i → Pv i) : Mid Pv' A B := ⟨h.size, fun i hi k => h.same i hi (hp i k)⟩
theorem Mid.obj {Pv : Nat → Prop} {A B : World} {i : Nat} {o : Obj} (h : Mid Pv A B) (hi : A.heap[i]? = some o) (hp : Pv i) : B.heap[i]? = some o := (h.same i (Array.getElem?_eq_some_iff.1 hi).1 hp).trans hi
theorem Mid.cell {Pv : Nat → Prop} {A B : World} {b o : Nat} {v : Value} (h : Mid Pv A B) (hc : A.cell? ⟨b, o, none⟩ = some v) (hp : Pv b) : B.cell? ⟨b, o, none⟩ = some v := (World.cell?_of_block (w := A) (h.same b (blt hc) hp)).trans hc
theorem Mid.setCell {Pv : Nat → Prop} {A B : World} {b o : Nat} (h : Mid Pv A B) (v : Value) (hp : ¬ Pv b) : Mid Pv A (B.setCell ⟨b, o, none⟩ v) :=
  h.trans ⟨(KeepsWalks.setCell B _ v).size, fun i _ k => Below.heap_setCell B ⟨b, o, none⟩ v i (fun e => hp (by rw [show b = i from e.symm]; exact k))⟩
theorem Mid.alloc {Pv : Nat → Prop} {A B : World} (h : Mid Pv A B) (o : Obj) : Mid Pv A (B.alloc o) := h.trans (Mid.of_below (below_alloc B o))

/-- What is left private, and more: whatever was private, or was made. -/
def More (Pv Pv' : Nat → Prop) (A B : World) : Prop := ∀ i, Pv' i → Pv i ∨ (A.heap.size ≤ i ∧ i < B.heap.size)
theorem More.same (Pv : Nat → Prop) (A B : World) : More Pv Pv A B := fun _ h => .inl h
/-- What the caller's invariant abides. -/
def Steady {β : Type} (J : β → (Nat → Prop) → World → Prop) : Prop := ∀ s Pv Pv' A B, J s Pv A → Goes Pv A B → More Pv Pv' A B → J s Pv' B

/-- The contract of an iterator that may make and write memory of its own. -/
def Iters {α : Type} (F : Fence) (n : Nat) (P : Program) (g : Nat) (lb : Array Value) (encs : α → Array Value) (Nx : List α → α → Prop) (S Sp : List α → Prop) (Cap : Nat → Prop) (w : World) : Prop :=
  ∀ (l : Nat) (J Jx : List α → (Nat → Prop) → World → Prop) (W : World) (Pv : Nat → Prop), Below w.heap.size w W → (∀ i, Cap i → Pv i) → Steady J → Steady Jx →
    (∀ pre x Pv W1, Nx pre x → J pre Pv W1 → YieldAt F (n - 1) P l (encs x) W1 fun e W' =>
      (e = .returned (.bool true) ∧ J (pre ++ [x]) Pv W' ∧ Mid Pv W1 W') ∨ (e = .returned (.bool false) ∧ Jx (pre ++ [x]) Pv W' ∧ Mid Pv W1 W')) →
    J [] Pv W →
    CallsIn F n P g (#[.func (.yield l) #[] #[]] ++ lb) W fun e W' => (∃ v, e = .returned v) ∧ ((∃ xs Pv, S xs ∧ J xs Pv W') ∨ (∃ pre Pv, Sp pre ∧ Jx pre Pv W'))
theorem Iters.later {α : Type} {F : Fence} {n : Nat} {P : Program} {g : Nat} {lb : Array Value} {encs : α → Array Value} {Nx : List α → α → Prop} {S Sp : List α → Prop} {Cap : Nat → Prop} {w w' : World}
    (h : Iters F n P g lb encs Nx S Sp Cap w) (hb : Below w.heap.size w w') : Iters F n P g lb encs Nx S Sp Cap w' :=
  fun l J Jx W Pv hW hc hJ hJx hY h0 => h l J Jx W Pv (btr hb hW) hc hJ hJx hY h0

/-- How a round may be left. -/
def itPost {β : Type} (I : β → (Nat → Prop) → World → Prop) (Ix : Code → β → (Nat → Prop) → World → Prop) (xs : β) (Pv : Nat → Prop) (W : World) : Exit → Act → World → Prop
  | .normal, _, W' => I xs Pv W' ∧ Mid Pv W W'
  | .ret, _, W' => Ix .ret xs Pv W' ∧ Mid Pv W W'
  | .exit id, _, W' => Ix (.exit id) xs Pv W' ∧ Mid Pv W W'
  | .goto t, _, W' => Ix (.goto t) xs Pv W' ∧ Mid Pv W W'
  | .panic _, _, _ => False
  | .outgrown, _, _ => False

/-- The range itself. -/
theorem wpIn_range_iters {F : Fence} {n : Nat} {P : Program} {α : Type} {g : Operand} {ps : Array Tmp} {assign body : Code} {Q : Exit → Act → World → Prop} {a : Act} {w : World}
    (hro : F.round = none) (h1 : 1 ≤ n) {gf : Nat} {lb : Array Value} (hg : a.eval g = .func (.func gf) #[] lb) (hFg : F.fn gf) (eg : ∀ args w, (callFunc gf args).run P w = .ok (.enter gf args) w)
    {encs : α → Array Value} {Nx : List α → α → Prop} {S Sp : List α → Prop} {Cap : Nat → Prop} {w0 : World} (hseq : Iters F (n - 1) P gf lb encs Nx S Sp Cap w0) (hb0 : Below w0.heap.size w0 w) (hps : ∀ x, (encs x).size = ps.size) (hcap : ∀ i, Cap i → i < w.heap.size)
    (I : List α → (Nat → Prop) → World → Prop) (Ix : Code → List α → (Nat → Prop) → World → Prop) (hI : Steady I) (hIx : ∀ c, Steady (Ix c)) (h0 : I [] Cap w)
    (hround : ∀ (l : Nat) (pre : List α) (x : α) (Pv : Nat → Prop) (W : World), Nx pre x → I pre Pv W → Pv l → w.heap.size ≤ l → (∃ r, W.heap[l]? = some (.loop r)) →
      assign.wpIn (F.inRound l) (n - 1 - 1) P (Exit.then (fun a' W' => Mid Pv W W' ∧ ∀ W'', Goes (fun i => i = l) W' W'' → (∃ r, W''.heap[l]? = some (.loop r)) →
        body.wpIn (F.inRound l) (n - 1 - 1) P (itPost I Ix (pre ++ [x]) Pv W'') a' W'') (fun _ _ _ => False)) { tmps := (ps.zip (encs x)).foldl (fun t (p, v) => t.setIfInBounds p v) a.tmps, defers := [] } W)
    (hdone : ∀ (D : Nat) (xs : List α) (Pv : Nat → Prop) (W : World), w.heap.size ≤ D → Pv D → S xs → I xs Pv W → W.heap[D]? = some (.deferred (some [])) → Q .normal { a with defers := { target := .collected D, args := #[] } :: a.defers } W)
    (hstop : ∀ (D : Nat) (c : Code) (pre : List α) (Pv : Nat → Prop) (W : World), w.heap.size ≤ D → Pv D → Sp pre → Ix c pre Pv W → W.heap[D]? = some (.deferred (some [])) → c.wpIn F n P Q { a with defers := { target := .collected D, args := #[] } :: a.defers } W) :
    (Code.rangeFunc g ps assign body).wpIn F n P Q a w := by
  refine wpIn_rangeFunc ?_
  intro fn hfn
  rw [hro]
  obtain ⟨rec, hrec⟩ : ∃ rec : LoopState → Option Code → Loop, rec = fun st pe => { state := st, pending := pe, fn, tmps := a.tmps, params := ps, assign, body, defers := w.heap.size } := ⟨_, rfl⟩
  let V := (w.alloc (.deferred (some []))).alloc (.loop (rec .ready none))
  have hVs : V.heap.size = w.heap.size + 2 := by simp [V]
  have hLV : V.heap[w.heap.size + 1]? = some (.loop (rec .ready none)) := by
    have := World.alloc_heap_new (w.alloc (.deferred (some []))) (.loop (rec .ready none)); rwa [World.size_alloc] at this
  have hDV : V.heap[w.heap.size]? = some (.deferred (some [])) := (Below.heap_alloc _ _ _ (by simp)).trans (World.alloc_heap_new w _)
  have hbV : Below w.heap.size w V := bal (below_alloc w _) _
  let Pv0 : Nat → Prop := fun i => Cap i ∨ i = w.heap.size ∨ i = w.heap.size + 1
  have hIV : I [] Pv0 V := hI _ _ _ _ _ h0 (Goes.of_below hbV) (fun i h => by rcases h with h | rfl | rfl; exact .inl h; exact .inr ⟨by omega, by omega⟩; exact .inr ⟨by omega, by omega⟩)
  have wide : ∀ {Pv Pv' : Nat → Prop} {A B : World}, More Pv Pv' A B → More (fun i => Pv i ∨ i = w.heap.size ∨ i = w.heap.size + 1) (fun i => Pv' i ∨ i = w.heap.size ∨ i = w.heap.size + 1) A B := fun hm i h => by
    rcases h with h | h
    · exact (hm i h).elim (fun k => .inl (.inl k)) .inr
    · exact .inl (.inr h)
  refine ⟨w.heap.size + 1, [{ target := .collected w.heap.size, args := #[] }], V, { target := .fn (.func gf) lb, args := #[.func (.yield (w.heap.size + 1)) #[] #[]] }, V, gf,
    #[.func (.yield (w.heap.size + 1)) #[] #[]] ++ lb, V, ?_, ?_, ?_, ?_, fun _ => h1, ?_⟩
  · rw [show V = (w.alloc (.deferred (some []))).alloc (.loop (rec .ready none)) from rfl, hrec]; exact run_enterLoop_outer _ _ _ _ _
  · simp only [resolve, hg]
    simp [go_sem]
  · intro f' hf'; simp [Target.leads] at hf'; subst hf'; exact hFg
  · simp [invoke, go_sem, eg]
  · clear_value V
    refine (hseq (w.heap.size + 1)
      (fun pre Pv W => I pre (fun i => Pv i ∨ i = w.heap.size ∨ i = w.heap.size + 1) W ∧ w.heap.size + 2 ≤ W.heap.size ∧ ¬ Pv w.heap.size ∧ ¬ Pv (w.heap.size + 1) ∧ W.heap[w.heap.size + 1]? = some (.loop (rec .ready none)) ∧ W.heap[w.heap.size]? = some (.deferred (some [])))
      (fun pre Pv W => ∃ c, Ix c pre (fun i => Pv i ∨ i = w.heap.size ∨ i = w.heap.size + 1) W ∧ w.heap.size + 2 ≤ W.heap.size ∧ ¬ Pv w.heap.size ∧ ¬ Pv (w.heap.size + 1) ∧ W.heap[w.heap.size + 1]? = some (.loop (rec .done (some c))) ∧ W.heap[w.heap.size]? = some (.deferred (some [])))
      V Cap (btr hb0 hbV) (fun _ h => h) ?_ ?_ ?_ ⟨hIV, by omega, fun h => by have := hcap _ h; omega, fun h => by have := hcap _ h; omega, hLV, hDV⟩).mono ?_
    · rintro s Pv Pv' A B ⟨j1, j2, j3, j4, j5, j6⟩ hg hm
      exact ⟨hI s _ _ A B j1 (hg.mono fun i h => .inl h) (wide hm), Nat.le_trans j2 hg.size, fun h => (hm _ h).elim j3 (fun h => by omega), fun h => (hm _ h).elim j4 (fun h => by omega), hg.obj j5 j4, hg.obj j6 j3⟩
    · rintro s Pv Pv' A B ⟨c, j1, j2, j3, j4, j5, j6⟩ hg hm
      exact ⟨c, hIx c s _ _ A B j1 (hg.mono fun i h => .inl h) (wide hm), Nat.le_trans j2 hg.size, fun h => (hm _ h).elim j3 (fun h => by omega), fun h => (hm _ h).elim j4 (fun h => by omega), hg.obj j5 j4, hg.obj j6 j3⟩
    · rintro pre x Pv W hnx ⟨hi, hz, n1, n2, hl, hk⟩
      have hy := run_yield (P := P) (args := encs x) hl (by rw [hrec]; exact hps x)
      rw [hrec] at hy
      refine ⟨fn, _, assign, body, hy, roundIn_of_wpIn hfn (wpIn_mono (hround (w.heap.size + 1) pre x (fun i => Pv i ∨ i = w.heap.size ∨ i = w.heap.size + 1) W hnx hi (.inr (.inr rfl)) (by omega) ⟨_, hl⟩) ?_)⟩
      rintro e a2 W2 h2
      cases e with
      | normal =>
        obtain ⟨hm2, hbody⟩ := h2
        have hl2 := hm2.obj hl (.inr (.inr rfl))
        have hk2 := hm2.obj hk (.inr (.inl rfl))
        refine ⟨_, run_beginRound hl2 (by rw [hrec]), ?_⟩
        have hlB : (W2.putObj (w.heap.size + 1) (.loop { rec .ready none with state := .busy })).heap[w.heap.size + 1]? = some (.loop { rec .ready none with state := .busy }) := World.putObj_heap_same (Array.getElem?_eq_some_iff.1 hl2).1
        have hkB : (W2.putObj (w.heap.size + 1) (.loop { rec .ready none with state := .busy })).heap[w.heap.size]? = some (.deferred (some [])) := (World.putObj_heap_other (by omega)).trans hk2
        have hmB : ∀ W3, Mid (fun i => Pv i ∨ i = w.heap.size ∨ i = w.heap.size + 1) (W2.putObj (w.heap.size + 1) (.loop { rec .ready none with state := .busy })) W3 → ∀ o, Mid Pv W (W3.putObj (w.heap.size + 1) o) := fun W3 h o =>
          (hm2.mono fun i h => .inl h).trans ((Mid.of_grown (grownBy_putObj' W2 _ _) (fun r e => by cases e; exact n2)).trans ((h.mono fun i h => .inl h).trans (Mid.of_grown (grownBy_putObj' W3 _ _) (fun r e => by cases e; exact n2))))
        refine wpIn_mono (hbody _ (Goes.putObj W2 _ rfl) ⟨_, hlB⟩) ?_
        have fin : ∀ (jump : Option Code) (W3 : World), Mid (fun i => Pv i ∨ i = w.heap.size ∨ i = w.heap.size + 1) (W2.putObj (w.heap.size + 1) (.loop { rec .ready none with state := .busy })) W3 →
            (Instr.endRound (w.heap.size + 1) jump).run P W3 = .ok (.bool jump.isNone) (W3.putObj (w.heap.size + 1) (.loop (rec (if jump.isNone then .ready else .done) jump))) ∧
            (W3.putObj (w.heap.size + 1) (.loop (rec (if jump.isNone then .ready else .done) jump))).heap[w.heap.size + 1]? = some (.loop (rec (if jump.isNone then .ready else .done) jump)) ∧
            (W3.putObj (w.heap.size + 1) (.loop (rec (if jump.isNone then .ready else .done) jump))).heap[w.heap.size]? = some (.deferred (some [])) ∧
            w.heap.size + 2 ≤ (W3.putObj (w.heap.size + 1) (.loop (rec (if jump.isNone then .ready else .done) jump))).heap.size := fun jump W3 h => by
          have hl3 := h.obj hlB (.inr (.inr rfl))
          have hk3 := h.obj hkB (.inr (.inl rfl))
          have := run_endRound (P := P) jump hl3
          rw [hrec] at this ⊢
          refine ⟨this, World.putObj_heap_same (Array.getElem?_eq_some_iff.1 hl3).1, (World.putObj_heap_other (by omega)).trans hk3, ?_⟩
          have h4 := (Array.getElem?_eq_some_iff.1 hl3).1
          simp [World.putObj]; omega
        rintro e a3 W3 hp
        cases e with
        | normal =>
          obtain ⟨q1, q2⟩ := hp
          obtain ⟨f1, f2, f3, f4⟩ := fin none W3 q2
          exact ⟨_, _, f1, .inl ⟨rfl, ⟨hI _ _ _ _ _ q1 (Goes.putObj W3 _ (.inr (.inr rfl))) (More.same _ _ _), f4, n1, n2, f2, f3⟩, hmB W3 q2 _⟩⟩
        | ret =>
          obtain ⟨q1, q2⟩ := hp
          obtain ⟨f1, f2, f3, f4⟩ := fin (some .ret) W3 q2
          exact ⟨_, _, f1, .inr ⟨rfl, ⟨.ret, hIx _ _ _ _ _ _ q1 (Goes.putObj W3 _ (.inr (.inr rfl))) (More.same _ _ _), f4, n1, n2, f2, f3⟩, hmB W3 q2 _⟩⟩
        | exit id =>
          obtain ⟨q1, q2⟩ := hp
          obtain ⟨f1, f2, f3, f4⟩ := fin (some (.exit id)) W3 q2
          exact ⟨_, _, f1, .inr ⟨rfl, ⟨.exit id, hIx _ _ _ _ _ _ q1 (Goes.putObj W3 _ (.inr (.inr rfl))) (More.same _ _ _), f4, n1, n2, f2, f3⟩, hmB W3 q2 _⟩⟩
        | goto t =>
          obtain ⟨q1, q2⟩ := hp
          obtain ⟨f1, f2, f3, f4⟩ := fin (some (.goto t)) W3 q2
          exact ⟨_, _, f1, .inr ⟨rfl, ⟨.goto t, hIx _ _ _ _ _ _ q1 (Goes.putObj W3 _ (.inr (.inr rfl))) (More.same _ _ _), f4, n1, n2, f2, f3⟩, hmB W3 q2 _⟩⟩
        | panic _ => exact hp.elim
        | outgrown => exact hp.elim
      | ret => exact h2.elim
      | exit _ => exact h2.elim
      | goto _ => exact h2.elim
      | panic _ => exact h2.elim
      | outgrown => exact h2.elim
    · rintro e W2 ⟨⟨v, rfl⟩, (⟨xs, Pv, hS, hi, hz, n1, n2, hl, hk⟩ | ⟨pre, Pv, hSp, c, hi, hz, n1, n2, hl, hk⟩)⟩
      · exact ⟨none, _, by have := run_endLoop (P := P) hl (by rw [hrec]; simp); rw [hrec] at this; exact this, hdone _ xs _ _ (Nat.le_refl _) (.inr (.inl rfl)) hS (hI _ _ _ _ _ hi (Goes.putObj W2 _ (.inr (.inr rfl))) (More.same _ _ _)) ((World.putObj_heap_other (by omega)).trans hk)⟩
      · exact ⟨some c, _, by have := run_endLoop (P := P) hl (by rw [hrec]; simp); rw [hrec] at this; exact this, hstop _ c pre _ _ (Nat.le_refl _) (.inr (.inl rfl)) hSp (hIx c _ _ _ _ _ hi (Goes.putObj W2 _ (.inr (.inr rfl))) (More.same _ _ _)) ((World.putObj_heap_other (by omega)).trans hk)⟩
end Go.Proofs.YtkokcfhfgnkdfaaGreatDoor

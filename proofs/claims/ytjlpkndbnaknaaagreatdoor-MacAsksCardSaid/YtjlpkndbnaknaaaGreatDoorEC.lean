/- errors.Is, where both are nil or one fault; the faults' own makers. -/
import Derived.Test.YtjlpkndbnaknaaaGreatDoorEB
namespace Go.Proofs.YtjlpkndbnaknaaaGreatDoor
open Go.RowKit Go.Extern.Stop Go.Stop Go.Extern

theorem methodComparable (h : Value) (w : World) : (Go.method 278 104 (.agg #[h]) "Comparable").run Tryz.prog w = .ok (114, .agg #[h]) w := by kernel_rfl
theorem comparable61 (w : World) : ((ReflectliteType.method fun t => do Rtype.noPackHeld "Comparable" t; (fun a => Value.bool a.comparable) <$> typeInfo t) #[.agg #[.pointer (some ⟨8, 66, none⟩)]]).run Tryz.prog w = .ok (.bool true) w := by kernel_rfl

theorem eql61 (e : Int) (w : World) : (binOp .eql 34 (.iface 66 (.agg #[.int .i64 e])) (.iface 66 (.agg #[.int .i64 e]))).run Tryz.prog w = .ok (.bool true) w := by
  obtain ⟨i, hi, hcmp⟩ := Option.map_eq_some_iff.1 (show (Tryz.prog.info? 66).map (·.comparable) = some true by kernel_rfl)
  have hp : ∀ W, (part 24 #[.int .i64 e] 0).run Tryz.prog W = .ok (.int .i64 e) W := fun _ => by kernel_rfl
  have hs : ∀ d : Nat, (Op.equalIn (d + 2) 66 (.agg #[.int .i64 e]) (.agg #[.int .i64 e])).run Tryz.prog w = .ok true w := fun d => by
    rw [run_equalIn_struct w (d + 1) 66 _ _ (by simp [Program.fieldsOf, Tryz.underlying66]) (by kernel_rfl)]
    simp [Program.fieldsOf, Tryz.underlying66, Op.eqFields, hp, Op.equalIn, run_underlying Tryz.underlying24]
  have h : ∀ d : Nat, (Op.equalIn (d + 3) 34 (.iface 66 (.agg #[.int .i64 e])) (.iface 66 (.agg #[.int .i64 e]))).run Tryz.prog w = .ok true w := fun d => by
    rw [Op.equalIn]
    simp [run_underlying Tryz.underlying34, typeInfo, hi, hcmp, hs]
  simp only [binOp]
  simp [Op.equal, Op.maxDepth, h 9997]
set_option maxRecDepth 100000 in
/-- errors.Is(nil, x). -/
theorem is_nil (e : Int) (w : World) :
    Calls Tryz.prog 25 #[.nilIface, .iface 66 (.agg #[.int .i64 e])] w fun x w' => x = .returned (.bool false) ∧ w = w' := by
  have hn := run_eql_iface_nil_left (P := Tryz.prog) w 66 (.agg #[.int .i64 e]) Tryz.underlying34
  go_enter Tryz.func25, Tryz.ntmps25
  go_wp2
  go_ret
  exact ⟨rfl, rfl⟩
set_option maxRecDepth 100000 in
set_option maxHeartbeats 4000000 in
/-- errors.Is(x, x), x a fault. -/
theorem is_same (e : Int) (w : World) :
    Calls Tryz.prog 25 #[.iface 66 (.agg #[.int .i64 e]), .iface 66 (.agg #[.int .i64 e])] w fun x w' => x = .returned (.bool true) ∧ w = w' := by
  have h8 := @run_callFunc_extern Tryz.prog 43 _ ReflectliteType.typeOf Tryz.func43 (by kernel_rfl) (by kernel_rfl) (by kernel_rfl) (by kernel_rfl)
  have h32 := @run_callFunc_extern Tryz.prog 114 _ (ReflectliteType.method fun t => do Rtype.noPackHeld "Comparable" t; pure (.bool (← typeInfo t).comparable)) Tryz.func114 (by kernel_rfl) (by kernel_rfl) (by kernel_rfl) (by kernel_rfl)
  have tT := typeOf61
  have cT := comparable61
  have mR := methodComparable
  have eE := eql61 e
  go_enter Tryz.func25, Tryz.ntmps25
  go_wp2
  refine wp_loop_rounds 1 ?_
  rw [rounds_succ]
  go_wp2
  go_ret
  exact ⟨rfl, rfl⟩

theorem of_c (w : World) (c : Int) (hc : (c == 0) = false) : Calls Tryz.prog 26 #[.int .i64 c] w fun x w' => x = .returned (.iface 66 (.agg #[.int .i64 c])) ∧ w = w' := by
  go_enter Tryz.func26, Tryz.ntmps26
  go_wp2
  go_ret
  exact ⟨rfl, rfl⟩
/-- What a check's failing leaves. -/
def errV (b : Bool) (c : Int) : Value := if b = true then .nilIface else .iface 66 (.agg #[.int .i64 c])
theorem unless_c (w : World) (b : Bool) (c : Int) : Calls Tryz.prog 35 #[.bool b, .int .i64 c] w fun x w' => x = .returned (errV b c) ∧ w = w' := by
  cases b
  all_goals
    go_enter Tryz.func35, Tryz.ntmps35
    go_wp2
    go_ret
    exact ⟨rfl, rfl⟩
set_option maxRecDepth 100000 in
set_option maxHeartbeats 4000000 in
theorem no_c (w : World) (c : Int) (hg : w.cell? ⟨3, 0, none⟩ = some (.iface 104 (.agg #[.pointer (some ⟨8, 34, none⟩)]))) :
    Calls Tryz.prog 20 #[.iface 66 (.agg #[.int .i64 c])] w fun x w' => x = .returned (.int .i64 c) ∧ Below w.heap.size w w' := by
  have hg2 : (w.alloc (.cells #[.int .i64 0] 66)).cell? ⟨3, 0, none⟩ = some (.iface 104 (.agg #[.pointer (some ⟨8, 34, none⟩)])) := keep_alloc _ hg
  have HA := Lib.hid (as_hit c ⟨w.heap.size, 0, none⟩ (.int .i64 0) (w.alloc (.cells #[.int .i64 0] 66)) hg2 (by go_simp) (by go_simp))
  clear hg2 hg
  go_enter Tryz.func20, Tryz.ntmps20
  go_wp2_with fail
  refine HA.out.mono ?_
  rintro x w1 ⟨rfl, rfl⟩
  go_wp2
  go_ret
  exact ⟨rfl, bal (bal (bal (bal (below_alloc _ _) _) _) _) _⟩
end Go.Proofs.YtjlpkndbnaknaaaGreatDoor

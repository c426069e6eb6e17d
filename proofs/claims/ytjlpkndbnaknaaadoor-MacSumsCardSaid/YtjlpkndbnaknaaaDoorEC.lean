/- errors.Is, where both are nil or one fault; the faults' own makers. -/
import Derived.Test.YtjlpkndbnaknaaaDoorEB
namespace Go.Proofs.YtjlpkndbnaknaaaDoor
open Go.RowKit Go.Extern.Stop Go.Stop Go.Extern

theorem methodComparable (h : Value) (w : World) : (Go.method 273 100 (.agg #[h]) "Comparable").run Tryd.prog w = .ok (105, .agg #[h]) w := by kernel_rfl
theorem comparable61 (w : World) : ((ReflectliteType.method fun t => do Rtype.noPackHeld "Comparable" t; (fun a => Value.bool a.comparable) <$> typeInfo t) #[.agg #[.pointer (some ⟨7, 65, none⟩)]]).run Tryd.prog w = .ok (.bool true) w := by kernel_rfl

theorem eql61 (e : Int) (w : World) : (binOp .eql 35 (.iface 65 (.agg #[.int .i64 e])) (.iface 65 (.agg #[.int .i64 e]))).run Tryd.prog w = .ok (.bool true) w := by
  obtain ⟨i, hi, hcmp⟩ := Option.map_eq_some_iff.1 (show (Tryd.prog.info? 65).map (·.comparable) = some true by kernel_rfl)
  have hp : ∀ W, (part 24 #[.int .i64 e] 0).run Tryd.prog W = .ok (.int .i64 e) W := fun _ => by kernel_rfl
  have hs : ∀ d : Nat, (Op.equalIn (d + 2) 65 (.agg #[.int .i64 e]) (.agg #[.int .i64 e])).run Tryd.prog w = .ok true w := fun d => by
    rw [run_equalIn_struct w (d + 1) 65 _ _ (by simp [Program.fieldsOf, Tryd.underlying65]) (by kernel_rfl)]
    simp [Program.fieldsOf, Tryd.underlying65, Op.eqFields, hp, Op.equalIn, run_underlying Tryd.underlying24]
  have h : ∀ d : Nat, (Op.equalIn (d + 3) 35 (.iface 65 (.agg #[.int .i64 e])) (.iface 65 (.agg #[.int .i64 e]))).run Tryd.prog w = .ok true w := fun d => by
    rw [Op.equalIn]
    simp [run_underlying Tryd.underlying35, typeInfo, hi, hcmp, hs]
  simp only [binOp]
  simp [Op.equal, Op.maxDepth, h 9997]
set_option maxRecDepth 100000 in
/-- errors.Is(nil, x). -/
theorem is_nil (e : Int) (w : World) :
    Calls Tryd.prog 23 #[.nilIface, .iface 65 (.agg #[.int .i64 e])] w fun x w' => x = .returned (.bool false) ∧ w = w' := by
  have hn := run_eql_iface_nil_left (P := Tryd.prog) w 65 (.agg #[.int .i64 e]) Tryd.underlying35
  go_enter Tryd.func23, Tryd.ntmps23
  go_wp2
  go_ret
  exact ⟨rfl, rfl⟩
set_option maxRecDepth 100000 in
set_option maxHeartbeats 4000000 in
/-- errors.Is(x, x), x a fault. -/
theorem is_same (e : Int) (w : World) :
    Calls Tryd.prog 23 #[.iface 65 (.agg #[.int .i64 e]), .iface 65 (.agg #[.int .i64 e])] w fun x w' => x = .returned (.bool true) ∧ w = w' := by
  have h8 := @run_callFunc_extern Tryd.prog 37 _ ReflectliteType.typeOf Tryd.func37 (by kernel_rfl) (by kernel_rfl) (by kernel_rfl) (by kernel_rfl)
  have h32 := @run_callFunc_extern Tryd.prog 105 _ (ReflectliteType.method fun t => do Rtype.noPackHeld "Comparable" t; pure (.bool (← typeInfo t).comparable)) Tryd.func105 (by kernel_rfl) (by kernel_rfl) (by kernel_rfl) (by kernel_rfl)
  have tT := typeOf61
  have cT := comparable61
  have mR := methodComparable
  have eE := eql61 e
  go_enter Tryd.func23, Tryd.ntmps23
  go_wp2
  refine wp_loop_rounds 1 ?_
  rw [rounds_succ]
  go_wp2
  go_ret
  exact ⟨rfl, rfl⟩

theorem of_c (w : World) (c : Int) (hc : (c == 0) = false) : Calls Tryd.prog 24 #[.int .i64 c] w fun x w' => x = .returned (.iface 65 (.agg #[.int .i64 c])) ∧ w = w' := by
  go_enter Tryd.func24, Tryd.ntmps24
  go_wp2
  go_ret
  exact ⟨rfl, rfl⟩
/-- What a check's failing leaves. -/
def errV (b : Bool) (c : Int) : Value := if b = true then .nilIface else .iface 65 (.agg #[.int .i64 c])
theorem unless_c (w : World) (b : Bool) (c : Int) : Calls Tryd.prog 29 #[.bool b, .int .i64 c] w fun x w' => x = .returned (errV b c) ∧ w = w' := by
  cases b
  all_goals
    go_enter Tryd.func29, Tryd.ntmps29
    go_wp2
    go_ret
    exact ⟨rfl, rfl⟩
set_option maxRecDepth 100000 in
set_option maxHeartbeats 4000000 in
theorem no_c (w : World) (c : Int) (hg : w.cell? ⟨2, 0, none⟩ = some (.iface 100 (.agg #[.pointer (some ⟨7, 35, none⟩)]))) :
    Calls Tryd.prog 17 #[.iface 65 (.agg #[.int .i64 c])] w fun x w' => x = .returned (.int .i64 c) ∧ Below w.heap.size w w' := by
  have hg2 : (w.alloc (.cells #[.int .i64 0] 65)).cell? ⟨2, 0, none⟩ = some (.iface 100 (.agg #[.pointer (some ⟨7, 35, none⟩)])) := keep_alloc _ hg
  have HA := Lib.hid (as_hit c ⟨w.heap.size, 0, none⟩ (.int .i64 0) (w.alloc (.cells #[.int .i64 0] 65)) hg2 (by go_simp) (by go_simp))
  clear hg2 hg
  go_enter Tryd.func17, Tryd.ntmps17
  go_wp2_with fail
  refine HA.out.mono ?_
  rintro x w1 ⟨rfl, rfl⟩
  go_wp2
  go_ret
  exact ⟨rfl, bal (bal (bal (bal (below_alloc _ _) _) _) _) _⟩
end Go.Proofs.YtjlpkndbnaknaaaDoor

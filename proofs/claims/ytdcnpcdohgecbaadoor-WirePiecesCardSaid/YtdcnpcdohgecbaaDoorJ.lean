/- errors.Is of two faults that differ. -/
import Derived.Test.YtdcnpcdohgecbaaDoorI
import Derived.Test.YtdcnpcdohgecbaaDoorEC
import Derived.Stop.Asserts
namespace Go.Proofs.YtdcnpcdohgecbaaDoor
open Go.RowKit Go.Extern.Stop Go.Stop Go.Extern

theorem eql61_ne (e d : Int) (hne : (e == d) = false) (w : World) : (binOp .eql 50 (.iface 76 (.agg #[.int .i64 e])) (.iface 76 (.agg #[.int .i64 d]))).run Tryd.prog w = .ok (.bool false) w := by
  obtain ⟨i, hi, hcmp⟩ := Option.map_eq_some_iff.1 (show (Tryd.prog.info? 76).map (·.comparable) = some true by kernel_rfl)
  have hp : ∀ (x : Int) W, (part 28 #[.int .i64 x] 0).run Tryd.prog W = .ok (.int .i64 x) W := fun _ _ => by kernel_rfl
  have hs : ∀ n : Nat, (Op.equalIn (n + 2) 76 (.agg #[.int .i64 e]) (.agg #[.int .i64 d])).run Tryd.prog w = .ok false w := fun n => by
    rw [run_equalIn_struct w (n + 1) 76 _ _ (by simp [Program.fieldsOf, Tryd.underlying76]) (by kernel_rfl)]
    simp [Program.fieldsOf, Tryd.underlying76, Op.eqFields, hp, Op.equalIn, run_underlying Tryd.underlying28, hne]
  have h : ∀ n : Nat, (Op.equalIn (n + 3) 50 (.iface 76 (.agg #[.int .i64 e])) (.iface 76 (.agg #[.int .i64 d]))).run Tryd.prog w = .ok false w := fun n => by
    rw [Op.equalIn]
    simp [run_underlying Tryd.underlying50, typeInfo, hi, hcmp, hs]
  simp only [binOp]
  simp [Op.equal, Op.maxDepth, h 9997]
set_option maxRecDepth 100000 in
set_option maxHeartbeats 4000000 in
/-- errors.Is(x, y), x and y faults that differ. -/
theorem is_diff (e d : Int) (hne : (e == d) = false) (w : World) :
    Calls Tryd.prog 32 #[.iface 76 (.agg #[.int .i64 e]), .iface 76 (.agg #[.int .i64 d])] w fun x w' => x = .returned (.bool false) ∧ w = w' := by
  have h8 := @run_callFunc_extern Tryd.prog 52 _ ReflectliteType.typeOf Tryd.func52 (by kernel_rfl) (by kernel_rfl) (by kernel_rfl) (by kernel_rfl)
  have h32 := @run_callFunc_extern Tryd.prog 88 _ (ReflectliteType.method fun t => do Rtype.noPackHeld "Comparable" t; pure (.bool (← typeInfo t).comparable)) Tryd.func88 (by kernel_rfl) (by kernel_rfl) (by kernel_rfl) (by kernel_rfl)
  have tT := typeOf61
  have cT := comparable61
  have mR := methodComparable
  have eE := eql61_ne e d hne
  have a1 := fun xT v W => run_typeAssert_lacksB (P := Tryd.prog) (t := 76) (asserted := 101) (z := .nilIface) Tryd.underlying101 (by kernel_rfl) (by kernel_rfl) v xT W
  have a2 := fun xT v W => run_typeAssert_lacksB (P := Tryd.prog) (t := 76) (asserted := 104) (z := .nilIface) Tryd.underlying104 (by kernel_rfl) (by kernel_rfl) v xT W
  have a3 := fun xT v W => run_typeAssert_lacksB (P := Tryd.prog) (t := 76) (asserted := 105) (z := .nilIface) Tryd.underlying105 (by kernel_rfl) (by kernel_rfl) v xT W
  go_enter Tryd.func32, Tryd.ntmps32
  go_wp2
  refine wp_loop_rounds 1 ?_
  rw [rounds_succ]
  go_wp2
  go_ret
  exact ⟨rfl, rfl⟩
end Go.Proofs.YtdcnpcdohgecbaaDoor

/- errors.Is of two faults that differ. -/
import Derived.Test.YtjlpkndbnaknaaaGreatDoorEC
import Derived.Stop.Asserts
namespace Go.Proofs.YtjlpkndbnaknaaaGreatDoor
open Go.RowKit Go.Extern.Stop Go.Stop Go.Extern
theorem eql61_ne (e d : Int) (hne : (e == d) = false) (w : World) : (binOp .eql 34 (.iface 66 (.agg #[.int .i64 e])) (.iface 66 (.agg #[.int .i64 d]))).run Tryz.prog w = .ok (.bool false) w := by
  obtain ⟨i, hi, hcmp⟩ := Option.map_eq_some_iff.1 (show (Tryz.prog.info? 66).map (·.comparable) = some true by kernel_rfl)
  have hp : ∀ (x : Int) W, (part 24 #[.int .i64 x] 0).run Tryz.prog W = .ok (.int .i64 x) W := fun _ _ => by kernel_rfl
  have hs : ∀ n : Nat, (Op.equalIn (n + 2) 66 (.agg #[.int .i64 e]) (.agg #[.int .i64 d])).run Tryz.prog w = .ok false w := fun n => by
    rw [run_equalIn_struct w (n + 1) 66 _ _ (by simp [Program.fieldsOf, Tryz.underlying66]) (by kernel_rfl)]
    simp [Program.fieldsOf, Tryz.underlying66, Op.eqFields, hp, Op.equalIn, run_underlying Tryz.underlying24, hne]
  have h : ∀ n : Nat, (Op.equalIn (n + 3) 34 (.iface 66 (.agg #[.int .i64 e])) (.iface 66 (.agg #[.int .i64 d]))).run Tryz.prog w = .ok false w := fun n => by
    rw [Op.equalIn]
    simp [run_underlying Tryz.underlying34, typeInfo, hi, hcmp, hs]
  simp only [binOp]
  simp [Op.equal, Op.maxDepth, h 9997]
set_option maxRecDepth 100000 in
set_option maxHeartbeats 4000000 in
/-- errors.Is(x, y), x and y faults that differ. -/
theorem is_diff (e d : Int) (hne : (e == d) = false) (w : World) :
    Calls Tryz.prog 25 #[.iface 66 (.agg #[.int .i64 e]), .iface 66 (.agg #[.int .i64 d])] w fun x w' => x = .returned (.bool false) ∧ w = w' := by
  have h8 := @run_callFunc_extern Tryz.prog 43 _ ReflectliteType.typeOf Tryz.func43 (by kernel_rfl) (by kernel_rfl) (by kernel_rfl) (by kernel_rfl)
  have h32 := @run_callFunc_extern Tryz.prog 114 _ (ReflectliteType.method fun t => do Rtype.noPackHeld "Comparable" t; pure (.bool (← typeInfo t).comparable)) Tryz.func114 (by kernel_rfl) (by kernel_rfl) (by kernel_rfl) (by kernel_rfl)
  have tT := typeOf61
  have cT := comparable61
  have mR := methodComparable
  have eE := eql61_ne e d hne
  have a1 := fun xT v W => run_typeAssert_lacksB (P := Tryz.prog) (t := 66) (asserted := 106) (z := .nilIface) Tryz.underlying106 (by kernel_rfl) (by kernel_rfl) v xT W
  have a2 := fun xT v W => run_typeAssert_lacksB (P := Tryz.prog) (t := 66) (asserted := 109) (z := .nilIface) Tryz.underlying109 (by kernel_rfl) (by kernel_rfl) v xT W
  have a3 := fun xT v W => run_typeAssert_lacksB (P := Tryz.prog) (t := 66) (asserted := 110) (z := .nilIface) Tryz.underlying110 (by kernel_rfl) (by kernel_rfl) v xT W
  go_enter Tryz.func25, Tryz.ntmps25
  go_wp2
  refine wp_loop_rounds 1 ?_
  rw [rounds_succ]
  go_wp2
  go_ret
  exact ⟨rfl, rfl⟩
end Go.Proofs.YtjlpkndbnaknaaaGreatDoor

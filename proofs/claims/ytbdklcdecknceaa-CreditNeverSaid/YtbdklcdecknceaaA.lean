/- Contracts of the functions of package credit that only compute. -/
import Derived.Test.YtbdklcdecknceaaChecked
import Derived.WalkKit
import Derived.WalkLawsBesides
import Derived.WalkSpells
import Derived.Outline
import Derived.Deep.DeepFit
import Derived.Lib.Hide
import Derived.BigQuiet
import Derived.Deep.QuietTactic
import Derived.Maps.RangeWalk
namespace Go.Proofs.Ytbdklcdecknceaa
open Go.RowKit
open Go.WideMaps (string_law)

theorem ret_bool {a b : Bool} (h : a = b) : Ending.returned (.bool a) = .returned (.bool b) := by rw [h]
theorem ret_int {k : IntKind} {a b : Int} (h : a = b) : Ending.returned (.int k a) = .returned (.int k b) := by rw [h]

/-- What 'isBounded' says. -/
def bndB (g s : Int) : Bool := decide (0 ≤ s ∧ s ≤ g ∧ g ≤ 1000000000000)
/-- What 'isWindow' says. -/
def winB (g s : Int) : Bool := decide (wrap64 (g - s) ≤ 65536)
/-- What 'Right' says. -/
def rightB (g s : Int) : Bool := bndB g s && winB g s

set_option maxHeartbeats 400000 in
theorem left_any (g s : Int) (w : World) :
    Calls Try.prog 24 #[.agg #[.int .i64 g, .int .i64 s]] w fun e w' => e = .returned (.int .i64 (wrap64 (g - s))) ∧ Below w.heap.size w w' := by
  go_enter Try.func24, Try.ntmps24
  go_wp2
  go_ret
  exact ⟨rfl, (Below.refl _ _).alloc (Nat.le_refl _) _⟩

set_option maxHeartbeats 400000 in
theorem bounded_any (g s : Int) (w : World) :
    Calls Try.prog 31 #[.agg #[.int .i64 g, .int .i64 s]] w fun e w' => e = .returned (.bool (bndB g s)) ∧ Below w.heap.size w w' := by
  go_enter Try.func31, Try.ntmps31
  go_wp2
  all_goals
    go_ret
    exact ⟨ret_bool (by unfold bndB; symm; simp only [decide_eq_false_iff_not, decide_eq_true_eq]; omega), (Below.refl _ _).alloc (Nat.le_refl _) _⟩

set_option maxHeartbeats 400000 in
theorem window_any (g s : Int) (w : World) :
    Calls Try.prog 32 #[.agg #[.int .i64 g, .int .i64 s]] w fun e w' => e = .returned (.bool (winB g s)) ∧ Below w.heap.size w w' := by
  go_enter Try.func32, Try.ntmps32
  go_wp2_with (go_at_call 24; refine (left_any _ _ _).mono ?_; rintro e w' ⟨rfl, hb⟩)
  go_ret
  refine ⟨rfl, ((Below.refl _ _).alloc (Nat.le_refl _) _).trans (hb.mono (by simp))⟩


/-- A literal's entry, laid into a map of the call's own ('wpList_mapUpdate_own' at 'Op.insert'). -/
theorem wpList_insert_own {H : Type} {P : Program} (w : World) {ops : Array Oper} {rest : List Oper} {o : Oper} {a : Act} {Q : Exit → Act → World → Prop}
    (hg : o.guard = none) (m x v : Operand) (t : TypeId) (hop : o.op = Op.insert t m x v)
    (k e : TypeId) (K : Maps.Keyed P k) (ht : P.underlying t = some (.map k e)) (R : Value → Option (DataW H × List MemPlace)) (b n : Nat) (D : DataW H)
    (hm : a.eval m = .map (some b)) (hown : w.ownsMap P k R b n D) (hn : n < maxLen) (key val : Value) (kl : Lit) (hx : a.eval x = key) (hv : a.eval v = val) (hkey : keyOf P k key = some kl)
    (d : DataW H) (ps : List MemPlace) (hval : R val = some (d, ps))
    (hK : ∀ w', w'.ownsMap P k R b (n + 1) (D.put kl d) → w.grownBy w' (some b) → wpList P ops Q rest (a.put o.dst undef) w') :
    wpList P ops Q (o :: rest) a w := by
  refine wpList_plain hg fun K' hK' => ?_
  obtain ⟨w', hrun, r1, r2⟩ := hown.update K ht hn hkey hval
  unfold Oper.wp
  simp [execOp, hop, hm, hx, hv, hrun, Result.andThen]
  exact hK' _ _ (hK w' r1 r2)

/-- How the map's elements read: a number each. -/
def fnElem (v : Value) : Option (DataW Unit × List MemPlace) :=
  match v with
  | .func (.func f) a c => if a.size = 0 then if c.size = 0 then if f = 31 then some (.lit (.int .i64 31), []) else if f = 32 then some (.lit (.int .i64 32), []) else none else none else none
  | _ => none
def kBounds : Lit := .string [98, 111, 117, 110, 100, 115]
def kWindow : Lit := .string [119, 105, 110, 100, 111, 119]
def rulesD : DataW Unit := ((DataW.map []).put kBounds (.lit (.int .i64 31))).put kWindow (.lit (.int .i64 32))
theorem law9 : Maps.Keyed Try.prog 9 := Maps.Keyed.of_law (string_law Try.underlying9)

set_option maxHeartbeats 400000 in
theorem rules_any (w : World) :
    Calls Try.prog 23 #[] w fun e w' => e = .returned (.map (some w.heap.size)) ∧ w'.ownsMap Try.prog 9 fnElem w.heap.size 2 rulesD ∧ Below w.heap.size w w' := by
  have hmm := @run_makeMap Try.prog
  go_enter Try.func23, Try.ntmps23
  go_wp2_with (first
    | (refine wpList_insert_own _ rfl (.tmp 1) (.const (.string ⟨#[98, 111, 117, 110, 100, 115]⟩)) (.func 31) 39 rfl 9 41 law9 Try.underlying39 fnElem w.heap.size 0 (.map []) rfl (World.ownsMap_made _ _ _ _) (by unfold maxLen; omega) _ _ kBounds rfl rfl (by kernel_rfl) (.lit (.int .i64 31)) [] (by rfl) ?_; intro w1 h1 g1)
    | (refine wpList_insert_own _ rfl (.tmp 1) (.const (.string ⟨#[119, 105, 110, 100, 111, 119]⟩)) (.func 32) 39 rfl 9 41 law9 Try.underlying39 fnElem w.heap.size 1 _ rfl h1 (by unfold maxLen; omega) _ _ kWindow rfl rfl (by kernel_rfl) (.lit (.int .i64 32)) [] (by rfl) ?_; intro w2 h2 g2))
  go_ret
  exact ⟨rfl, h2, (((Below.refl _ _).alloc (Nat.le_refl _) _).grown g1 (by simp) (fun j hj => by cases hj; exact Nat.le_refl _)).grown g2 (by have := g1.size; simp at this; omega) (fun j hj => by cases hj; exact Nat.le_refl _)⟩
end Go.Proofs.Ytbdklcdecknceaa

/- A, FrE, S4P, Tp, Tq, F1A -/
import Derived.Test.YtkokcfhfgnkdfaaGreatDoorProg
import Derived.WalkKit
import Derived.WalkLawsBesides
import Derived.WalkSpells
import Derived.WalkSmall
import Derived.Outline
import Derived.Deep.DeepFit
import Derived.Lib.Hide
import Derived.BigQuiet
import Derived.Deep.QuietTactic
import Derived.Sort.QuietIn
import Derived.Deep.RegionHeld3
import Derived.IntWalk
import Derived.Laws.StructEq
import Derived.Maps.RangeWalk
import Derived.RangeFuncNested
import Derived.RangeFuncBound
import Derived.RangeFuncCalls
import Derived.RangeFuncLeaves
import Derived.RangeFuncBox
import Derived.Shelf.Abstract
import Derived.Shelf.RegionOpen
import Derived.OwnWalkIn
import Derived.TacticsInMore
import Derived.LoopNIn
import Derived.LoopIn
import Derived.Lib.OthersKept
import Derived.Maps.OwnOps
import Derived.Maps.OwnSet
import Derived.Test.YtkokcfhfgnkdfaaGreatDoorRows
import Derived.ChangeSame
import Derived.ChangeVars
import Derived.JoinedOf
import Derived.ProofKit
import Derived.OpenShut
import Derived.RowKitTokens
import Derived.LaidLaws
import Derived.LaidHandle
import Derived.Stop.Joined
import Derived.RowKit
set_option linter.unusedVariables false
set_option linter.unusedSimpArgs false
/- Small lemmas. -/
namespace Go.Proofs.YtkokcfhfgnkdfaaGreatDoor
open Go.RowKit

theorem ret_bool {a b : Bool} (h : a = b) : Ending.returned (.bool a) = .returned (.bool b) := by rw [h]
theorem bcell {W w1 : World} (hb : Below W.heap.size W w1) : (∀ b o, b < W.heap.size → w1.cell? ⟨b, o, none⟩ = W.cell? ⟨b, o, none⟩) ∧ (∀ b o, b < W.heap.size → w1.frozen? ⟨b, o, none⟩ = W.frozen? ⟨b, o, none⟩) :=
  ⟨fun b o h => hb.cell (p := ⟨b, o, none⟩) h, fun b o h => hb.frozen (p := ⟨b, o, none⟩) h⟩
theorem blt {w : World} {b o : Nat} {v : Value} (h : w.cell? ⟨b, o, none⟩ = some v) : b < w.heap.size := World.block_lt_of_cell? w ⟨b, o, none⟩ h
theorem keep_alloc {W : World} {b o : Nat} {v : Value} (X : Obj) (h : W.cell? ⟨b, o, none⟩ = some v) : (W.alloc X).cell? ⟨b, o, none⟩ = some v :=
  (World.cell?_of_block (w := W) (Below.heap_alloc W X b (blt h))).trans h
theorem set_other (W : World) (v : Value) {b bm o om : Nat} (hne : b ≠ bm) : (W.setCell ⟨bm, om, none⟩ v).cell? ⟨b, o, none⟩ = W.cell? ⟨b, o, none⟩ :=
  World.cell?_of_block (w := W) (Below.heap_setCell W ⟨bm, om, none⟩ v b hne)
theorem below_drewN {m : Nat} {a w : World} (h : Below m a w) (n : Nat) : Below m a (w.drewN n) := h.trans ⟨rfl, rfl, rfl, Nat.le_refl _, fun _ _ => rfl⟩
theorem below_drew {m : Nat} {a w : World} (h : Below m a w) : Below m a w.drew := h.trans ⟨rfl, rfl, rfl, Nat.le_refl _, fun _ _ => rfl⟩
theorem below_alloc (w : World) (o : Obj) : Below w.heap.size w (w.alloc o) := (Below.refl _ w).alloc (Nat.le_refl _) o
theorem bal {a W : World} (h : Below a.heap.size a W) (o : Obj) : Below a.heap.size a (W.alloc o) := h.alloc h.size o
theorem btr {a W W' : World} (h : Below a.heap.size a W) (k : Below W.heap.size W W') : Below a.heap.size a W' := h.trans (k.mono h.size)

/-- The bits of a number that a mask leaves. -/
theorem and_mask {a : Int} {m : Nat} (h0 : 0 ≤ a) (h1 : a ≤ 4294967295) (hm : m ≤ 32) : (((BitVec.ofInt 64 a &&& BitVec.ofInt 64 (((2 ^ m : Nat) : Int) - 1)).toNat : Nat) : Int) = a % ((2 ^ m : Nat) : Int) := by
  obtain ⟨n, rfl⟩ : ∃ n : Nat, a = n := ⟨a.toNat, by omega⟩
  have hp : (2 : Nat) ^ m ≤ 2 ^ 32 := Nat.pow_le_pow_right (by omega) hm
  have hp0 := Nat.two_pow_pos m
  rw [show (((2 ^ m : Nat) : Int) - 1) = (((2 ^ m - 1 : Nat)) : Int) by omega]
  simp only [BitVec.ofInt_natCast, BitVec.toNat_and, BitVec.toNat_ofNat]
  rw [Nat.mod_eq_of_lt (show n < 2 ^ 64 by omega), Nat.mod_eq_of_lt (show 2 ^ m - 1 < 2 ^ 64 by omega), Nat.and_two_pow_sub_one_eq_mod]
  rfl
theorem or_mask {a : Int} {m : Nat} (h0 : 0 ≤ a) (h1 : a ≤ 4294967295) (hm : m ≤ 32) (hd : a % ((2 ^ m : Nat) : Int) = 0) : (((BitVec.ofInt 64 a ||| BitVec.ofInt 64 (((2 ^ m : Nat) : Int) - 1)).toNat : Nat) : Int) = a + (((2 ^ m : Nat) : Int) - 1) := by
  obtain ⟨n, rfl⟩ : ∃ n : Nat, a = n := ⟨a.toNat, by omega⟩
  have hp : (2 : Nat) ^ m ≤ 2 ^ 32 := Nat.pow_le_pow_right (by omega) hm
  have hp0 := Nat.two_pow_pos m
  have hd' : n % 2 ^ m = 0 := by omega
  have e := Nat.div_add_mod n (2 ^ m)
  rw [hd', Nat.add_zero] at e
  rw [show (((2 ^ m : Nat) : Int) - 1) = (((2 ^ m - 1 : Nat)) : Int) by omega]
  simp only [BitVec.ofInt_natCast, BitVec.toNat_or, BitVec.toNat_ofNat]
  rw [Nat.mod_eq_of_lt (show n < 2 ^ 64 by omega), Nat.mod_eq_of_lt (show 2 ^ m - 1 < 2 ^ 64 by omega), ← e, ← Nat.two_pow_add_eq_or_of_lt (by omega)]
  omega

theorem pow_cast (m : Nat) : (((2 ^ m : Nat) : Int)) = (2 : Int) ^ m := by simp
theorem pow_le {m : Nat} (hm : m ≤ 32) : (0 : Int) < 2 ^ m ∧ (2 : Int) ^ m ≤ 4294967296 := by
  have hp : (2 : Nat) ^ m ≤ 2 ^ 32 := Nat.pow_le_pow_right (by omega) hm
  have hp0 := Nat.two_pow_pos m
  rw [← pow_cast]; omega
theorem bits_and {a : Int} {m : Nat} (h0 : 0 ≤ a) (h1 : a ≤ 4294967295) (hm : m ≤ 32) : bits .and .i64 a ((2 : Int) ^ m - 1) = a % (2 : Int) ^ m := by
  have e := and_mask h0 h1 hm
  rw [pow_cast] at e
  have e2 : bits .and .i64 a ((2 : Int) ^ m - 1) = IntKind.i64.wrap (((BitVec.ofInt 64 a &&& BitVec.ofInt 64 ((2 : Int) ^ m - 1)).toNat : Nat) : Int) := rfl
  have hp := pow_le hm
  have g1 := Int.emod_nonneg a (show (2 : Int) ^ m ≠ 0 by omega)
  have g2 := Int.emod_lt_of_pos a hp.1
  rw [e2, e]
  exact IntWalk.i64_in _ (by omega)
theorem bits_or {a : Int} {m : Nat} (h0 : 0 ≤ a) (h1 : a ≤ 4294967295) (hm : m ≤ 32) (hd : a % (2 : Int) ^ m = 0) : bits .or .i64 a ((2 : Int) ^ m - 1) = a + ((2 : Int) ^ m - 1) := by
  have e := or_mask h0 h1 hm (by rw [pow_cast]; exact hd)
  rw [pow_cast] at e
  have e2 : bits .or .i64 a ((2 : Int) ^ m - 1) = IntKind.i64.wrap (((BitVec.ofInt 64 a ||| BitVec.ofInt 64 ((2 : Int) ^ m - 1)).toNat : Nat) : Int) := rfl
  have hp := pow_le hm
  rw [e2, e]
  exact IntWalk.i64_in _ (by omega)
end Go.Proofs.YtkokcfhfgnkdfaaGreatDoor

/- What every row of a seat that lists errors.errorType alone shares. -/
namespace Go.Proofs.YtkokcfhfgnkdfaaGreatDoor
open Go.ChangeShapes Go.WideShapes Go.ChangeAt Go.RowKit

theorem own : ownKnob Tryz.prog.godebug = none := by kernel_rfl
theorem laidOut : laidOutB Tryz.prog = true := by kernel_rfl
theorem cells3 : Tryz.prog.cellsOf 3 = 1 := by kernel_rfl
theorem cells9 : Tryz.prog.cellsOf 9 = 1 := by kernel_rfl
theorem et0 : Tryz.prog.globalNamed "errors.errorType" = some 0 := by kernel_rfl
theorem rt0 : (Tryz.prog.cutTypes.find? (·.1 == "internal/reflectlite.rtype")).map (·.2) = some 161 := by kernel_rfl
theorem size0 : Tryz.prog.types.size = 219 := by kernel_rfl
theorem oneRow : ((List.range 219).filter fun t => Tryz.prog.rowNamed t [101, 114, 114, 111, 114]) = [78] := by kernel_rfl

/-- What the condition gives a walk: the variable's one cell. -/
theorem laid_of {W : World} (h : laidMetH Tryz.prog [("errors.errorType", Rows.laid_errors_errorType)] W) : W.cell? ⟨0, 0, none⟩ = some (.iface 161 (.agg #[.pointer (some ⟨1, 78, none⟩)])) := by
  have h' : laidMet Tryz.prog [] W ∧ handlesMet Tryz.prog [("errors.errorType", Rows.laid_errors_errorType)] W := h
  obtain ⟨name, u, ty, e1, e2, e3, e4, e5⟩ := h'.2 _ (List.mem_singleton.2 rfl)
  have en : name = [101, 114, 114, 111, 114] := (Option.some.inj e1).symm
  subst en
  obtain rfl := Option.some.inj (rt0.symm.trans e2)
  have hm : ty ∈ (List.range 219).filter fun t => Tryz.prog.rowNamed t [101, 114, 114, 111, 114] := List.mem_filter.2 ⟨List.mem_range.2 (by rw [← size0]; exact e3), e4⟩
  rw [oneRow] at hm
  obtain rfl := List.mem_singleton.1 hm
  have hh : typeHandle Tryz.prog 78 = .pointer (some ⟨1, 78, none⟩) := by kernel_rfl
  rw [hh] at e5
  simpa using World.var?_cell et0 e5 0

/-- A world that meets the condition: the settled one, the variable's cell laid. -/
noncomputable def laidWorld (os : Os) : World :=
  let w0 := World.holding Tryz.prog os ⟨#[], #[], []⟩
  { w0 with heap := w0.heap.modify 0 fun
      | .cells _ t frozen => .cells #[.iface 161 (.agg #[.pointer (some ⟨1, 78, none⟩)])] t frozen
      | o => o }
theorem laidWorld_met (os : Os) (args : Array Value) : laidMetH Tryz.prog [("errors.errorType", Rows.laid_errors_errorType)] ((laidWorld os).forCall (fun _ _ => 0) ⟨#[], args, []⟩).memory :=
  laidMetH_of_parts (laidMet_nil _ _) (by kernel_rfl)
end Go.Proofs.YtkokcfhfgnkdfaaGreatDoor

/- The states of a tunnel, and what events do to them, as plain functions; what they have to do with each other. -/
namespace Go.Proofs.YtkokcfhfgnkdfaaGreatDoor.L14

def isSt (s : Int) : Bool := decide (0 ≤ s ∧ s ≤ 6)
/-- Where an event leads, if it may happen. -/
def dest (s e : Int) : Int := if e = 1 then 1 else if e = 2 then 2 else if e = 3 then 6 else if e = 4 then (if s = 4 then 5 else 3) else if e = 5 then (if s = 3 then 5 else 4) else if e = 6 then 6 else 0
def goes (s e : Int) : Bool := if e = 1 then decide (s = 0) else if e = 2 then decide (s = 1) else if e = 3 then decide (s = 1) else if e = 4 then decide (s = 4 ∨ s = 2) else if e = 5 then decide (s = 3 ∨ s = 2) else if e = 6 then decide (1 ≤ s ∧ s ≤ 4) else false
/-- Where events lead. -/
def run : Int → List Int → Int
  | s, [] => s
  | s, e :: l => if goes s e = true then run (dest s e) l else s
/-- How many of them happen. -/
def cnt : Int → List Int → Nat
  | _, [] => 0
  | s, e :: l => if goes s e = true then cnt (dest s e) l + 1 else 0
def inB (s : Int) : Bool := decide (s = 2 ∨ s = 4)
def outB (s : Int) : Bool := decide (s = 2 ∨ s = 3)
def endB (s : Int) : Bool := decide (s = 5 ∨ s = 6)
/-- What is reached, and by how many events. -/
def reach (f : Int) : List (Int × Int) :=
  if f = 0 then [(0, 0), (1, 1), (2, 2), (6, 2), (3, 3), (4, 3), (5, 4)]
  else if f = 1 then [(1, 0), (2, 1), (6, 1), (3, 2), (4, 2), (5, 3)]
  else if f = 2 then [(2, 0), (3, 1), (4, 1), (6, 1), (5, 2)]
  else if f = 3 then [(3, 0), (5, 1), (6, 1)]
  else if f = 4 then [(4, 0), (5, 1), (6, 1)]
  else if f = 5 then [(5, 0)]
  else if f = 6 then [(6, 0)] else []
def far : List (Int × Int) → Int → Option Int
  | [], _ => none
  | (s, n) :: l, t => if s = t then some n else far l t
def leastN (f t : Int) : Int := (far (reach f) t).getD 0
def leastB (f t : Int) : Bool := (far (reach f) t).isSome

theorem isSt_cases {s : Int} (h : isSt s = true) : s = 0 ∨ s = 1 ∨ s = 2 ∨ s = 3 ∨ s = 4 ∨ s = 5 ∨ s = 6 := by
  simp only [isSt, decide_eq_true_eq] at h
  omega
theorem goes_cases {s e : Int} (h : goes s e = true) :
    (s = 0 ∧ e = 1) ∨ (s = 1 ∧ e = 2) ∨ (s = 1 ∧ e = 3) ∨ (s = 1 ∧ e = 6) ∨ (s = 2 ∧ e = 4) ∨ (s = 2 ∧ e = 5) ∨ (s = 2 ∧ e = 6) ∨ (s = 3 ∧ e = 5) ∨ (s = 3 ∧ e = 6) ∨ (s = 4 ∧ e = 4) ∨ (s = 4 ∧ e = 6) := by
  unfold goes at h
  split at h
  · simp at h; omega
  · split at h
    · simp at h; omega
    · split at h
      · simp at h; omega
      · split at h
        · simp at h; omega
        · split at h
          · simp at h; omega
          · split at h
            · simp at h; omega
            · simp at h
theorem dest_st {s e : Int} (h : goes s e = true) : isSt (dest s e) = true := by
  rcases goes_cases h with ⟨rfl, rfl⟩ | ⟨rfl, rfl⟩ | ⟨rfl, rfl⟩ | ⟨rfl, rfl⟩ | ⟨rfl, rfl⟩ | ⟨rfl, rfl⟩ | ⟨rfl, rfl⟩ | ⟨rfl, rfl⟩ | ⟨rfl, rfl⟩ | ⟨rfl, rfl⟩ | ⟨rfl, rfl⟩ <;> decide
theorem run_st {s : Int} (l : List Int) (h : isSt s = true) : isSt (run s l) = true := by
  induction l generalizing s with
  | nil => exact h
  | cons e l ih => simp only [run]; split
                   · exact ih (dest_st ‹_›)
                   · exact h
theorem cnt_le (s : Int) (l : List Int) : cnt s l ≤ l.length := by
  induction l generalizing s with
  | nil => simp [cnt]
  | cons e l ih => simp only [cnt, List.length_cons]; split
                   · have := ih (dest s e); omega
                   · omega
/-- What is kept by each event is kept by events. -/
theorem run_keeps {P : Int → Prop} (hP : ∀ s e, P s → goes s e = true → P (dest s e)) {s : Int} (l : List Int) (h : P s) : P (run s l) := by
  induction l generalizing s with
  | nil => exact h
  | cons e l ih => simp only [run]; split
                   · exact ih (hP _ _ h ‹_›)
                   · exact h
/-- How many events may still happen. -/
def left (s : Int) : Nat := if s = 0 then 4 else if s = 1 then 3 else if s = 2 then 2 else if s = 3 ∨ s = 4 then 1 else 0
theorem left_dest {s e : Int} (h : goes s e = true) : left (dest s e) + 1 ≤ left s := by
  rcases goes_cases h with ⟨rfl, rfl⟩ | ⟨rfl, rfl⟩ | ⟨rfl, rfl⟩ | ⟨rfl, rfl⟩ | ⟨rfl, rfl⟩ | ⟨rfl, rfl⟩ | ⟨rfl, rfl⟩ | ⟨rfl, rfl⟩ | ⟨rfl, rfl⟩ | ⟨rfl, rfl⟩ | ⟨rfl, rfl⟩ <;> decide
theorem cnt_left (s : Int) (l : List Int) : cnt s l ≤ left s := by
  induction l generalizing s with
  | nil => simp [cnt]
  | cons e l ih => simp only [cnt]; split
                   · have := ih (dest s e); have := left_dest ‹_›; omega
                   · omega
theorem cnt_four (s : Int) (l : List Int) : cnt s l ≤ 4 := by
  have h := cnt_left s l
  have : left s ≤ 4 := by unfold left; repeat' split
                          all_goals omega
  omega
theorem end_stays {s : Int} (l : List Int) (h : endB s = true) : run s l = s ∧ cnt s l = 0 := by
  have hg : ∀ e, goes s e = false := by
    intro e
    cases hg : goes s e with
    | false => rfl
    | true => simp only [endB, decide_eq_true_eq] at h; rcases goes_cases hg with h' | h' | h' | h' | h' | h' | h' | h' | h' | h' | h' <;> omega
  cases l with
  | nil => exact ⟨rfl, rfl⟩
  | cons e l => simp [run, cnt, hg]
theorem in_stays {s : Int} (l : List Int) (h : s = 3 ∨ s = 5 ∨ s = 6) : inB (run s l) = false := by
  have := run_keeps (P := fun s => s = 3 ∨ s = 5 ∨ s = 6) (fun s e h hg => by
    rcases goes_cases hg with ⟨rfl, rfl⟩ | ⟨rfl, rfl⟩ | ⟨rfl, rfl⟩ | ⟨rfl, rfl⟩ | ⟨rfl, rfl⟩ | ⟨rfl, rfl⟩ | ⟨rfl, rfl⟩ | ⟨rfl, rfl⟩ | ⟨rfl, rfl⟩ | ⟨rfl, rfl⟩ | ⟨rfl, rfl⟩ <;> revert h <;> decide) l h
  simp only [inB, decide_eq_false_iff_not]; omega
theorem out_stays {s : Int} (l : List Int) (h : s = 4 ∨ s = 5 ∨ s = 6) : outB (run s l) = false := by
  have := run_keeps (P := fun s => s = 4 ∨ s = 5 ∨ s = 6) (fun s e h hg => by
    rcases goes_cases hg with ⟨rfl, rfl⟩ | ⟨rfl, rfl⟩ | ⟨rfl, rfl⟩ | ⟨rfl, rfl⟩ | ⟨rfl, rfl⟩ | ⟨rfl, rfl⟩ | ⟨rfl, rfl⟩ | ⟨rfl, rfl⟩ | ⟨rfl, rfl⟩ | ⟨rfl, rfl⟩ | ⟨rfl, rfl⟩ <;> revert h <;> decide) l h
  simp only [outB, decide_eq_false_iff_not]; omega
theorem run_append (s : Int) (l m : List Int) : run s (l ++ m) = if cnt s l = l.length then run (run s l) m else run s l := by
  induction l generalizing s with
  | nil => simp [run, cnt]
  | cons e l ih =>
    simp only [List.cons_append, run, cnt, List.length_cons]
    by_cases h : goes s e = true
    · simp [h, ih]
    · simp [h]
theorem cnt_append (s : Int) (l m : List Int) : cnt s (l ++ m) = if cnt s l = l.length then l.length + cnt (run s l) m else cnt s l := by
  induction l generalizing s with
  | nil => simp [run, cnt]
  | cons e l ih =>
    simp only [List.cons_append, run, cnt, List.length_cons]
    by_cases h : goes s e = true
    · simp only [h, if_true, ih, Nat.add_right_cancel_iff]
      split <;> omega
    · simp [h]
theorem least_far {s e : Int} (h : goes s e = true) (t : Int) (n : Int) (hn : far (reach (dest s e)) t = some n) : ∃ m, far (reach s) t = some m ∧ m ≤ n + 1 ∧ m ≠ 0 := by
  rcases goes_cases h with ⟨rfl, rfl⟩ | ⟨rfl, rfl⟩ | ⟨rfl, rfl⟩ | ⟨rfl, rfl⟩ | ⟨rfl, rfl⟩ | ⟨rfl, rfl⟩ | ⟨rfl, rfl⟩ | ⟨rfl, rfl⟩ | ⟨rfl, rfl⟩ | ⟨rfl, rfl⟩ | ⟨rfl, rfl⟩ <;>
    · have ht : t = 0 ∨ t = 1 ∨ t = 2 ∨ t = 3 ∨ t = 4 ∨ t = 5 ∨ t = 6 := by
        revert hn; simp [dest, reach, far]; intro hn; revert hn; repeat' split
        all_goals (intro hn; first | omega | simp at hn)
      rcases ht with rfl | rfl | rfl | rfl | rfl | rfl | rfl <;> revert hn <;> simp [dest, reach, far] <;> (try omega)
theorem far_nonneg {l : List (Int × Int)} {t m : Int} (h : ∀ x ∈ l, 0 ≤ x.2) (hm : far l t = some m) : 0 ≤ m := by
  induction l with
  | nil => cases hm
  | cons x l ih =>
    obtain ⟨y, k⟩ := x
    simp only [far] at hm
    split at hm
    · cases hm; exact h (y, m) (by simp)
    · exact ih (fun z hz => h z (by simp [hz])) hm
theorem reach_nonneg (s : Int) : ∀ x ∈ reach s, 0 ≤ x.2 := by
  unfold reach
  repeat' split
  all_goals decide
theorem least_run {s : Int} (l : List Int) (h : isSt s = true) : ∃ m : Int, far (reach s) (run s l) = some m ∧ 0 ≤ m ∧ m ≤ cnt s l ∧ (m = 0 ↔ run s l = s) := by
  induction l generalizing s with
  | nil =>
    refine ⟨0, ?_, by omega, by simp [cnt], by simp [run]⟩
    rcases isSt_cases h with rfl | rfl | rfl | rfl | rfl | rfl | rfl <;> rfl
  | cons e l ih =>
    by_cases hg : goes s e = true
    · obtain ⟨n, h1, h2, h3, h4⟩ := ih (dest_st hg)
      obtain ⟨m, g1, g2, g3⟩ := least_far hg _ n h1
      have hne : run (dest s e) l ≠ s := by
        intro hs
        have hl := left_dest hg
        have : left (run (dest s e) l) ≤ left (dest s e) := run_keeps (P := fun x => left x ≤ left (dest s e)) (fun x y hx hxy => by have := left_dest hxy; omega) l (Nat.le_refl _)
        rw [hs] at this; omega
      refine ⟨m, by simp [run, hg, g1], ?_, by simp only [cnt, hg, if_true]; omega, ?_⟩
      · exact far_nonneg (reach_nonneg s) g1
      · simp only [run, hg, if_true]
        exact ⟨fun h => absurd h g3, fun h => absurd h hne⟩
    · refine ⟨0, ?_, by omega, by simp [cnt, hg], by simp [run, hg]⟩
      simp only [run, hg, if_false, Bool.false_eq_true]
      rcases isSt_cases h with rfl | rfl | rfl | rfl | rfl | rfl | rfl <;> rfl
end Go.Proofs.YtkokcfhfgnkdfaaGreatDoor.L14

/- A tunnel in plain words: two ways, each two texts, credit and counts; what calls do to it. -/
namespace Go.Proofs.YtkokcfhfgnkdfaaGreatDoor.L17
open L14 (isSt goes dest inB outB endB)

/-- A way: what came, what goes, credit, counts. -/
structure Wy where
  i : List UInt8
  o : List UInt8
  g : Int
  s : Int
  fd : Nat
  mv : Nat
  dr : Nat
def Wy.zero : Wy := ⟨[], [], 0, 0, 0, 0, 0⟩
/-- A call. -/
structure OpV where
  kind : Int
  side : Int
  n : Int
  s : ByteArray
/-- A way that is right. -/
structure Wy.Ok (cap : Nat) (y : Wy) : Prop where
  il : y.i.length ≤ cap
  ol : y.o.length ≤ cap
  s0 : 0 ≤ y.s
  sg : y.s ≤ y.g
  gm : y.g ≤ 1000000000000
  gs : y.g - y.s ≤ 65536

def grantE (y : Wy) (n : Int) : Int := if n < 0 then 2 else if 65536 < n ∨ 65536 < y.g + n - y.s ∨ 1000000000000 < y.g + n then 130 else 0
def grantW (y : Wy) (n : Int) : Wy := if grantE y n = 0 then { y with g := y.g + n } else y
def feedN (cap : Nat) (y : Wy) (s : ByteArray) : Nat := min s.size (cap - y.i.length)
def feedW (cap : Nat) (y : Wy) (s : ByteArray) : Wy := { y with i := y.i ++ s.data.toList.take (cap - y.i.length), fd := y.fd + feedN cap y s }
def moveN (cap : Nat) (y : Wy) (n : Int) : Nat := min (min n.toNat (y.g - y.s).toNat) (min y.i.length (cap - y.o.length))
def moveW (cap : Nat) (y : Wy) (n : Int) : Wy := { y with i := y.i.drop (moveN cap y n), o := y.o ++ y.i.take (moveN cap y n), s := y.s + moveN cap y n, mv := y.mv + moveN cap y n }
def drainW (y : Wy) (n : Int) : Wy := { y with o := y.o.drop n.toNat, dr := y.dr + (y.o.take n.toNat).length }
def clearW (y : Wy) : Wy := { y with i := [] }

/-- A tunnel. -/
structure Tn where
  st : Int
  a : Wy
  b : Wy
structure Tn.Ok (cap : Nat) (t : Tn) : Prop where
  st : isSt t.st = true
  a : t.a.Ok cap
  b : t.b.Ok cap
def Tn.way (t : Tn) (side : Int) : Wy := if side = 0 then t.a else t.b
def Tn.put (t : Tn) (side : Int) (y : Wy) : Tn := if side = 0 then { t with a := y } else { t with b := y }
def sideB (side : Int) : Bool := decide (side = 0 ∨ side = 1)
def eventE (t : Tn) (e : Int) : Int := if goes t.st e = true then 0 else 140
def eventT (t : Tn) (e : Int) : Tn := if goes t.st e = true then (if dest t.st e = 6 then ⟨6, clearW t.a, clearW t.b⟩ else { t with st := dest t.st e }) else t
def openB (t : Tn) (side : Int) : Bool := if side = 0 then inB t.st else outB t.st
def stopN (t : Tn) : Nat := t.a.i.length + t.b.i.length
def stopT (t : Tn) : Tn := ⟨if endB t.st = true then t.st else 6, clearW t.a, clearW t.b⟩
def grantTE (t : Tn) (side n : Int) : Int := if sideB side = true then grantE (t.way side) n else 170
def grantT (t : Tn) (side n : Int) : Tn := if sideB side = true then t.put side (grantW (t.way side) n) else t
def feedE (t : Tn) (side : Int) : Int := if sideB side = true then (if openB t side = true then 0 else 171) else 170
def feedTN (cap : Nat) (t : Tn) (side : Int) (s : ByteArray) : Nat := if feedE t side = 0 then feedN cap (t.way side) s else 0
def feedT (cap : Nat) (t : Tn) (side : Int) (s : ByteArray) : Tn := if feedE t side = 0 then t.put side (feedW cap (t.way side) s) else t
def moveE (t : Tn) (side n : Int) : Int := if sideB side = true then (if 2 ≤ t.st ∧ t.st ≤ 5 then (if n < 0 then 2 else 0) else 171) else 170
def moveTN (cap : Nat) (t : Tn) (side n : Int) : Nat := if moveE t side n = 0 then moveN cap (t.way side) n else 0
def moveT (cap : Nat) (t : Tn) (side n : Int) : Tn := if moveE t side n = 0 then t.put side (moveW cap (t.way side) n) else t
def drainE (side : Int) : Int := if sideB side = true then 0 else 170
def drainS (t : Tn) (side n : Int) : List UInt8 := if sideB side = true then (t.way side).o.take n.toNat else []
def drainT (t : Tn) (side n : Int) : Tn := if sideB side = true then t.put side (drainW (t.way side) n) else t
/-- What a call answers, and does. -/
def doN (cap : Nat) (t : Tn) (x : OpV) : Nat := if x.kind = 2 then feedTN cap t x.side x.s else if x.kind = 3 then moveTN cap t x.side x.n else if x.kind = 5 then stopN t else 0
def doS (t : Tn) (x : OpV) : List UInt8 := if x.kind = 4 then drainS t x.side x.n else []
def doE (t : Tn) (x : OpV) : Int := if x.kind = 0 then eventE t x.n else if x.kind = 1 then grantTE t x.side x.n else if x.kind = 2 then feedE t x.side else if x.kind = 3 then moveE t x.side x.n else if x.kind = 4 then drainE x.side else 0
def doT (cap : Nat) (t : Tn) (x : OpV) : Tn :=
  if x.kind = 0 then eventT t x.n else if x.kind = 1 then grantT t x.side x.n else if x.kind = 2 then feedT cap t x.side x.s else if x.kind = 3 then moveT cap t x.side x.n else if x.kind = 4 then drainT t x.side x.n else if x.kind = 5 then stopT t else t
def runT (cap : Nat) (t : Tn) (l : List OpV) : Tn := l.foldl (doT cap) t
def cntF (t : Tn) (side : Int) : Nat := if sideB side = true then (t.way side).fd else 0
def cntM (t : Tn) (side : Int) : Nat := if sideB side = true then (t.way side).mv else 0
def cntD (t : Tn) (side : Int) : Nat := if sideB side = true then (t.way side).dr else 0
def Tn.new : Tn := ⟨0, Wy.zero, Wy.zero⟩

theorem Wy.Ok.zero (cap : Nat) : Wy.zero.Ok cap := by constructor <;> simp [Wy.zero]
theorem Tn.Ok.new (cap : Nat) : Tn.new.Ok cap := ⟨by decide, Wy.Ok.zero _, Wy.Ok.zero _⟩
theorem grant_ok {cap : Nat} {y : Wy} (h : y.Ok cap) (n : Int) : (grantW y n).Ok cap := by
  unfold grantW
  split
  · rename_i e
    unfold grantE at e
    obtain ⟨h1, h2, h3, h4, h5, h6⟩ := h
    repeat' split at e
    all_goals first | (exact absurd e (by decide)) | exact ⟨h1, h2, h3, by simp only; omega, by simp only; omega, by simp only; omega⟩
  · exact h
theorem feed_ok {cap : Nat} {y : Wy} (h : y.Ok cap) (s : ByteArray) : (feedW cap y s).Ok cap :=
  ⟨by simp only [feedW, List.length_append, List.length_take]; have := h.il; omega, h.ol, h.s0, h.sg, h.gm, h.gs⟩
theorem move_le (cap : Nat) (y : Wy) (n : Int) : moveN cap y n ≤ y.i.length ∧ moveN cap y n ≤ cap - y.o.length ∧ (moveN cap y n : Int) ≤ max 0 (y.g - y.s) := by
  unfold moveN; omega
theorem move_ok {cap : Nat} {y : Wy} (h : y.Ok cap) (n : Int) : (moveW cap y n).Ok cap := by
  obtain ⟨m1, m2, m3⟩ := move_le cap y n
  obtain ⟨h1, h2, h3, h4, h5, h6⟩ := h
  exact ⟨by simp only [moveW, List.length_drop]; omega, by simp only [moveW, List.length_append, List.length_take]; omega, by simp only [moveW]; omega, by simp only [moveW]; omega, h5, by simp only [moveW]; omega⟩
theorem drain_ok {cap : Nat} {y : Wy} (h : y.Ok cap) (n : Int) : (drainW y n).Ok cap :=
  ⟨h.il, by simp only [drainW, List.length_drop]; have := h.ol; omega, h.s0, h.sg, h.gm, h.gs⟩
theorem clear_ok {cap : Nat} {y : Wy} (h : y.Ok cap) : (clearW y).Ok cap := ⟨by simp [clearW], h.ol, h.s0, h.sg, h.gm, h.gs⟩
theorem way_ok {cap : Nat} {t : Tn} (h : t.Ok cap) (side : Int) : (t.way side).Ok cap := by unfold Tn.way; split; exact h.a; exact h.b
theorem put_ok {cap : Nat} {t : Tn} (h : t.Ok cap) (side : Int) {y : Wy} (hy : y.Ok cap) : (t.put side y).Ok cap := by
  unfold Tn.put; split; exact ⟨h.st, hy, h.b⟩; exact ⟨h.st, h.a, hy⟩
theorem do_ok {cap : Nat} {t : Tn} (h : t.Ok cap) (x : OpV) : (doT cap t x).Ok cap := by
  unfold doT
  split
  · unfold eventT
    split
    · rename_i hg
      split
      · exact ⟨(by decide : isSt 6 = true), clear_ok h.a, clear_ok h.b⟩
      · exact ⟨L14.dest_st hg, h.a, h.b⟩
    · exact h
  split
  · unfold grantT; split; exact put_ok h _ (grant_ok (way_ok h _) _); exact h
  split
  · unfold feedT; split; exact put_ok h _ (feed_ok (way_ok h _) _); exact h
  split
  · unfold moveT; split; exact put_ok h _ (move_ok (way_ok h _) _); exact h
  split
  · unfold drainT; split; exact put_ok h _ (drain_ok (way_ok h _) _); exact h
  split
  · refine ⟨?_, clear_ok h.a, clear_ok h.b⟩
    unfold stopT; simp only; split; exact h.st; decide
  · exact h
theorem run_ok {cap : Nat} (l : List OpV) : ∀ {t : Tn}, t.Ok cap → (runT cap t l).Ok cap := by
  induction l with
  | nil => intro t h; exact h
  | cons x l ih => intro t h; exact ih (do_ok h x)
theorem run_snoc (cap : Nat) (t : Tn) (l : List OpV) (x : OpV) : runT cap t (l ++ [x]) = doT cap (runT cap t l) x := by simp [runT]
theorem run_take (cap : Nat) (t : Tn) (l : List OpV) (k : Nat) (h : k < l.length) : runT cap t (l.take (k + 1)) = doT cap (runT cap t (l.take k)) l[k] := by
  rw [List.take_succ_eq_append_getElem h, run_snoc]
end Go.Proofs.YtkokcfhfgnkdfaaGreatDoor.L17

/- Plain facts of tunnels: what a call changes in a way; invariants of runs. -/
namespace Go.Proofs.YtkokcfhfgnkdfaaGreatDoor.L17
open L14 (isSt goes dest inB outB endB)

/-- What a call takes of its text in a direction, and gives. -/
def inX (cap : Nat) (t : Tn) (x : OpV) (d : Int) : List UInt8 := if x.side = d ∧ x.kind = 2 ∧ doE t x = 0 then x.s.data.toList.take (doN cap t x) else []
def outX (t : Tn) (x : OpV) (d : Int) : List UInt8 := if x.side = d ∧ doE t x = 0 then doS t x else []

theorem side_cases {d : Int} (h : sideB d = true) : d = 0 ∨ d = 1 := by simpa [sideB] using h
theorem way_put_same (t : Tn) (d : Int) (y : Wy) : (t.put d y).way d = y := by unfold Tn.put Tn.way; split <;> rfl
theorem way_put_other (t : Tn) {d e : Int} (hd : sideB d = true) (he : sideB e = true) (h : d ≠ e) (y : Wy) : (t.put d y).way e = t.way e := by
  rcases side_cases hd with rfl | rfl <;> rcases side_cases he with rfl | rfl <;> first | exact absurd rfl h | rfl
theorem st_put (t : Tn) (d : Int) (y : Wy) : (t.put d y).st = t.st := by unfold Tn.put; split <;> rfl
theorem way_event (t : Tn) (e d : Int) : (eventT t e).way d = (if goes t.st e = true ∧ dest t.st e = 6 then clearW (t.way d) else t.way d) := by
  by_cases hg : goes t.st e = true
  · by_cases h6 : dest t.st e = 6
    · have e1 : eventT t e = ⟨6, clearW t.a, clearW t.b⟩ := by unfold eventT; rw [if_pos hg, if_pos h6]
      rw [e1, if_pos ⟨hg, h6⟩]; unfold Tn.way; split <;> rfl
    · have e1 : eventT t e = { t with st := dest t.st e } := by unfold eventT; rw [if_pos hg, if_neg h6]
      rw [e1, if_neg (fun h => h6 h.2)]; rfl
  · have e1 : eventT t e = t := by unfold eventT; rw [if_neg hg]
    rw [e1, if_neg (fun h => hg h.1)]
theorem way_stop (t : Tn) (d : Int) : (stopT t).way d = clearW (t.way d) := by unfold stopT Tn.way; split <;> rfl
theorem end_dest {s e : Int} (h : goes s e = true) (h6 : dest s e = 6) : endB (dest s e) = true := by rw [h6]; decide
theorem end_goes {s e : Int} (h : endB s = true) : goes s e = false := by
  cases hg : goes s e with
  | false => rfl
  | true =>
    rcases L14.goes_cases hg with ⟨rfl, rfl⟩ | ⟨rfl, rfl⟩ | ⟨rfl, rfl⟩ | ⟨rfl, rfl⟩ | ⟨rfl, rfl⟩ | ⟨rfl, rfl⟩ | ⟨rfl, rfl⟩ | ⟨rfl, rfl⟩ | ⟨rfl, rfl⟩ | ⟨rfl, rfl⟩ | ⟨rfl, rfl⟩ <;> exact absurd h (by decide)
theorem open_end {t : Tn} {d : Int} (h : openB t d = true) : endB t.st = false := by
  cases he : endB t.st with
  | false => rfl
  | true =>
    simp only [endB, decide_eq_true_eq] at he
    unfold openB at h
    rcases he with he | he <;> rw [he] at h <;> split at h <;> exact absurd h (by decide)

/-- What a call does in a direction. -/
inductive Did (cap : Nat) (t : Tn) (x : OpV) (d : Int) : Wy → List UInt8 → List UInt8 → Prop
  | none : (x.kind = 1 → x.side = d → doE t x ≠ 0) → Did cap t x d (t.way d) [] []
  | grant : x.side = d → x.kind = 1 → doE t x = 0 → grantE (t.way d) x.n = 0 → Did cap t x d { t.way d with g := (t.way d).g + x.n } [] []
  | feed : x.side = d → x.kind = 2 → doE t x = 0 → openB t d = true → Did cap t x d (feedW cap (t.way d) x.s) (x.s.data.toList.take (feedN cap (t.way d) x.s)) []
  | move : x.side = d → x.kind = 3 → doE t x = 0 → 2 ≤ t.st → t.st ≤ 5 → Did cap t x d (moveW cap (t.way d) x.n) [] []
  | drain : x.side = d → x.kind = 4 → doE t x = 0 → Did cap t x d (drainW (t.way d) x.n) [] ((t.way d).o.take x.n.toNat)
  | clear : x.kind = 0 ∨ x.kind = 5 → endB (doT cap t x).st = true → Did cap t x d (clearW (t.way d)) [] []

theorem did (cap : Nat) (t : Tn) (x : OpV) {d : Int} (hd : sideB d = true) : Did cap t x d ((doT cap t x).way d) (inX cap t x d) (outX t x d) := by
  by_cases k0 : x.kind = 0
  · have e1 : inX cap t x d = [] := by unfold inX; rw [if_neg (fun h => by omega)]
    have e2 : outX t x d = [] := by unfold outX doS; rw [if_neg (show ¬ x.kind = 4 by omega)]; split <;> rfl
    have e3 : doT cap t x = eventT t x.n := by unfold doT; rw [if_pos k0]
    rw [e1, e2, e3, way_event]
    split
    · rename_i h
      refine .clear (.inl k0) ?_
      rw [e3]; unfold eventT; rw [if_pos h.1, if_pos h.2]; exact (by decide : endB 6 = true)
    · exact .none (fun h => by omega)
  by_cases k1 : x.kind = 1
  · have e1 : inX cap t x d = [] := by unfold inX; rw [if_neg (fun h => by omega)]
    have e2 : outX t x d = [] := by unfold outX doS; rw [if_neg (show ¬ x.kind = 4 by omega)]; split <;> rfl
    have e3 : doT cap t x = grantT t x.side x.n := by unfold doT; rw [if_neg k0, if_pos k1]
    have e4 : doE t x = grantTE t x.side x.n := by unfold doE; rw [if_neg k0, if_pos k1]
    rw [e1, e2, e3]
    by_cases hs : x.side = d
    · have e5 : grantT t x.side x.n = t.put d (grantW (t.way d) x.n) := by unfold grantT; rw [hs, if_pos hd]
      rw [e5, way_put_same]
      have e6 : doE t x = grantE (t.way d) x.n := by rw [e4, hs]; unfold grantTE; rw [if_pos hd]
      unfold grantW
      split
      · rename_i h; exact .grant hs k1 (e6.trans h) h
      · rename_i h; exact .none (fun _ _ h2 => h (e6.symm.trans h2))
    · have e5 : (grantT t x.side x.n).way d = t.way d := by
        unfold grantT
        split
        · rename_i h; exact way_put_other t h hd hs _
        · rfl
      rw [e5]; exact .none (fun _ h => absurd h hs)
  by_cases k2 : x.kind = 2
  · have e2 : outX t x d = [] := by unfold outX doS; rw [if_neg (show ¬ x.kind = 4 by omega)]; split <;> rfl
    have e3 : doT cap t x = feedT cap t x.side x.s := by unfold doT; rw [if_neg k0, if_neg k1, if_pos k2]
    have e4 : doE t x = feedE t x.side := by unfold doE; rw [if_neg k0, if_neg k1, if_pos k2]
    have e5 : doN cap t x = feedTN cap t x.side x.s := by unfold doN; rw [if_pos k2]
    rw [e2, e3]
    by_cases hs : x.side = d
    · by_cases he : feedE t x.side = 0
      · have e1 : inX cap t x d = x.s.data.toList.take (feedN cap (t.way d) x.s) := by unfold inX; rw [if_pos ⟨hs, k2, e4.trans he⟩, e5]; unfold feedTN; rw [if_pos he, hs]
        have e6 : feedT cap t x.side x.s = t.put d (feedW cap (t.way d) x.s) := by unfold feedT; rw [if_pos he, hs]
        rw [e1, e6, way_put_same]
        refine .feed hs k2 (e4.trans he) ?_
        rw [hs] at he; unfold feedE at he; rw [if_pos hd] at he
        by_cases ho : openB t d = true
        · exact ho
        · rw [if_neg ho] at he; exact absurd he (by decide)
      · have e1 : inX cap t x d = [] := by unfold inX; rw [if_neg (fun h => he (e4.symm.trans h.2.2))]
        have e6 : feedT cap t x.side x.s = t := by unfold feedT; rw [if_neg he]
        rw [e1, e6]; exact .none (fun h => by omega)
    · have e1 : inX cap t x d = [] := by unfold inX; rw [if_neg (fun h => hs h.1)]
      have e5 : (feedT cap t x.side x.s).way d = t.way d := by
        unfold feedT
        split
        · rename_i h
          have h1 : sideB x.side = true := by
            unfold feedE at h
            split at h
            · assumption
            · exact absurd h (by decide)
          exact way_put_other t h1 hd hs _
        · rfl
      rw [e1, e5]; exact .none (fun h => by omega)
  have e1 : inX cap t x d = [] := by unfold inX; rw [if_neg (fun h => by omega)]
  by_cases k3 : x.kind = 3
  · have e2 : outX t x d = [] := by unfold outX doS; rw [if_neg (show ¬ x.kind = 4 by omega)]; split <;> rfl
    have e3 : doT cap t x = moveT cap t x.side x.n := by unfold doT; rw [if_neg k0, if_neg k1, if_neg k2, if_pos k3]
    have e4 : doE t x = moveE t x.side x.n := by unfold doE; rw [if_neg k0, if_neg k1, if_neg k2, if_pos k3]
    rw [e1, e2, e3]
    by_cases he : moveE t x.side x.n = 0
    · have h1 : sideB x.side = true ∧ 2 ≤ t.st ∧ t.st ≤ 5 := by
        unfold moveE at he
        split at he
        · rename_i h1
          split at he
          · rename_i h2; exact ⟨h1, h2⟩
          · exact absurd he (by decide)
        · exact absurd he (by decide)
      have e6 : moveT cap t x.side x.n = t.put x.side (moveW cap (t.way x.side) x.n) := by unfold moveT; rw [if_pos he]
      by_cases hs : x.side = d
      · rw [e6, hs, way_put_same]; exact .move hs k3 (e4.trans he) h1.2.1 h1.2.2
      · rw [e6, way_put_other t h1.1 hd hs]; exact .none (fun h => by omega)
    · have e6 : moveT cap t x.side x.n = t := by unfold moveT; rw [if_neg he]
      rw [e6]; exact .none (fun h => by omega)
  by_cases k4 : x.kind = 4
  · have e3 : doT cap t x = drainT t x.side x.n := by unfold doT; rw [if_neg k0, if_neg k1, if_neg k2, if_neg k3, if_pos k4]
    have e4 : doE t x = drainE x.side := by unfold doE; rw [if_neg k0, if_neg k1, if_neg k2, if_neg k3, if_pos k4]
    rw [e1, e3]
    by_cases hs : x.side = d
    · have he : doE t x = 0 := by rw [e4, hs]; unfold drainE; rw [if_pos hd]
      have e2 : outX t x d = (t.way d).o.take x.n.toNat := by unfold outX doS drainS; rw [if_pos ⟨hs, he⟩, if_pos k4, hs, if_pos hd]
      have e6 : drainT t x.side x.n = t.put d (drainW (t.way d) x.n) := by unfold drainT; rw [hs, if_pos hd]
      rw [e2, e6, way_put_same]; exact .drain hs k4 he
    · have e2 : outX t x d = [] := by unfold outX; rw [if_neg (fun h => hs h.1)]
      have e5 : (drainT t x.side x.n).way d = t.way d := by
        unfold drainT
        split
        · rename_i h; exact way_put_other t h hd hs _
        · rfl
      rw [e2, e5]; exact .none (fun h => by omega)
  have e2 : outX t x d = [] := by unfold outX doS; rw [if_neg k4]; split <;> rfl
  rw [e1, e2]
  by_cases k5 : x.kind = 5
  · have e3 : doT cap t x = stopT t := by unfold doT; rw [if_neg k0, if_neg k1, if_neg k2, if_neg k3, if_neg k4, if_pos k5]
    rw [e3, way_stop]
    refine .clear (.inr k5) ?_
    rw [e3]; unfold stopT; simp only; split
    · assumption
    · decide
  · have e3 : doT cap t x = t := by unfold doT; rw [if_neg k0, if_neg k1, if_neg k2, if_neg k3, if_neg k4, if_neg k5]
    rw [e3]; exact .none (fun h => by omega)

/-- A state that is an end stays. -/
theorem st_end (cap : Nat) (t : Tn) (x : OpV) (h : endB t.st = true) : (doT cap t x).st = t.st := by
  unfold doT
  split
  · unfold eventT; rw [if_neg (by rw [end_goes h]; decide)]
  split
  · unfold grantT; split; exact st_put _ _ _; rfl
  split
  · unfold feedT; split; exact st_put _ _ _; rfl
  split
  · unfold moveT; split; exact st_put _ _ _; rfl
  split
  · unfold drainT; split; exact st_put _ _ _; rfl
  split
  · unfold stopT; rw [if_pos h]
  · rfl

/-- What holds of a way at all times: what was taken, what was given. -/
structure Way1 (cap : Nat) (y : Wy) (inn out : List UInt8) (ended : Bool) : Prop where
  ok : y.Ok cap
  fd : y.fd = inn.length
  dr : y.dr = out.length
  mv : y.mv = out.length + y.o.length
  ms : (y.mv : Int) = y.s
  pre : out ++ y.o ++ y.i <+: inn
  all : ended = false → out ++ y.o ++ y.i = inn
theorem Way1.zero (cap : Nat) : Way1 cap Wy.zero [] [] false := ⟨Wy.Ok.zero _, rfl, rfl, rfl, rfl, List.prefix_refl _, fun _ => rfl⟩
theorem prefix_cut {a b c : List UInt8} (h : a ++ b <+: c) : a <+: c := (List.prefix_append a b).trans h
theorem Way1.step {cap : Nat} {t : Tn} {x : OpV} {d : Int} {y : Wy} {i o inn out : List UInt8} (hd : Did cap t x d y i o) (h : Way1 cap (t.way d) inn out (endB t.st)) (hst : endB t.st = true → endB (doT cap t x).st = true) :
    Way1 cap y (inn ++ i) (out ++ o) (endB (doT cap t x).st) := by
  have hst' : endB (doT cap t x).st = false → endB t.st = false := fun h => by
    cases e : endB t.st with
    | false => rfl
    | true => rw [hst e] at h; exact absurd h (by decide)
  obtain ⟨h1, h2, h3, h4, h5, h6, h7⟩ := h
  cases hd with
  | none _ => simp only [List.append_nil]; exact ⟨h1, h2, h3, h4, h5, h6, fun h => h7 (hst' h)⟩
  | grant hs k e g =>
    simp only [List.append_nil]
    have := grant_ok h1 x.n
    unfold grantW at this
    rw [if_pos g] at this
    exact ⟨this, h2, h3, h4, h5, h6, fun h => h7 (hst' h)⟩
  | feed hs k e ho =>
    have he := open_end ho
    have h8 := h7 he
    have e9 : x.s.data.toList.take (feedN cap (t.way d) x.s) = x.s.data.toList.take (cap - (t.way d).i.length) := by
      unfold feedN
      rcases Nat.le_total x.s.size (cap - (t.way d).i.length) with hl | hl
      · rw [Nat.min_eq_left hl, List.take_of_length_le (by rw [ByteArray.size, ← Array.length_toList]; exact Nat.le_refl _), List.take_of_length_le (by rw [Array.length_toList]; exact hl)]
      · rw [Nat.min_eq_right hl]
    have e10 : (x.s.data.toList.take (feedN cap (t.way d) x.s)).length = feedN cap (t.way d) x.s := by
      rw [List.length_take, Array.length_toList]; unfold feedN; exact Nat.min_eq_left (Nat.min_le_left _ _)
    have e11 : out ++ (t.way d).o ++ ((t.way d).i ++ x.s.data.toList.take (cap - (t.way d).i.length)) = inn ++ x.s.data.toList.take (feedN cap (t.way d) x.s) := by
      rw [e9, ← h8]; simp only [List.append_assoc]
    refine ⟨feed_ok h1 x.s, ?_, ?_, ?_, h5, ?_, fun _ => ?_⟩
    · simp only [feedW, List.length_append, e10, h2]
    · rw [List.append_nil]; exact h3
    · rw [List.append_nil]; exact h4
    · simp only [feedW, List.append_nil]; rw [e11]; exact List.prefix_refl _
    · simp only [feedW, List.append_nil]; exact e11
  | move hs k e s1 s2 =>
    obtain ⟨m1, m2, m3⟩ := move_le cap (t.way d) x.n
    have e1 : out ++ ((t.way d).o ++ (t.way d).i.take (moveN cap (t.way d) x.n)) ++ (t.way d).i.drop (moveN cap (t.way d) x.n) = out ++ (t.way d).o ++ (t.way d).i := by
      simp only [List.append_assoc, List.take_append_drop]
    refine ⟨move_ok h1 x.n, ?_, ?_, ?_, ?_, ?_, fun h => ?_⟩
    · rw [List.append_nil]; exact h2
    · rw [List.append_nil]; exact h3
    · simp only [moveW, List.append_nil, List.length_append, List.length_take]; omega
    · simp only [moveW]; omega
    · simp only [moveW, List.append_nil]; rw [e1]; exact h6
    · simp only [moveW, List.append_nil]; rw [e1]; exact h7 (hst' h)
  | drain hs k e =>
    have e1 : out ++ (t.way d).o.take x.n.toNat ++ (t.way d).o.drop x.n.toNat ++ (t.way d).i = out ++ (t.way d).o ++ (t.way d).i := by
      rw [List.append_assoc out, List.take_append_drop]
    have e2 : ((t.way d).o.take x.n.toNat).length + ((t.way d).o.drop x.n.toNat).length = (t.way d).o.length := by rw [← List.length_append, List.take_append_drop]
    refine ⟨drain_ok h1 x.n, ?_, ?_, ?_, h5, ?_, fun h => ?_⟩
    · rw [List.append_nil]; exact h2
    · simp only [drainW, List.length_append, h3]
    · simp only [drainW, List.length_append]; omega
    · simp only [drainW, List.append_nil]; rw [e1]; exact h6
    · simp only [drainW, List.append_nil]; rw [e1]; exact h7 (hst' h)
  | clear k he =>
    simp only [List.append_nil]
    refine ⟨clear_ok h1, h2, h3, h4, h5, ?_, fun h => ?_⟩
    · simp only [clearW, List.append_nil]; exact prefix_cut h6
    · rw [he] at h; exact absurd h (by decide)

/-- Texts that add up along a run. -/
def accL (cap : Nat) (f : Tn → OpV → List UInt8) : Tn → List OpV → List UInt8
  | _, [] => []
  | t, x :: l => f t x ++ accL cap f (doT cap t x) l
theorem accL_snoc (cap : Nat) (f : Tn → OpV → List UInt8) (l : List OpV) (x : OpV) : ∀ t, accL cap f t (l ++ [x]) = accL cap f t l ++ f (runT cap t l) x := by
  induction l with
  | nil => intro t; simp [accL, runT]
  | cons y l ih => intro t; simp only [List.cons_append, accL, ih, runT, List.foldl_cons, List.append_assoc]
theorem accL_take (cap : Nat) (f : Tn → OpV → List UInt8) (t : Tn) (l : List OpV) (k : Nat) (h : k < l.length) : accL cap f t (l.take (k + 1)) = accL cap f t (l.take k) ++ f (runT cap t (l.take k)) l[k] := by
  rw [List.take_succ_eq_append_getElem h, accL_snoc]
/-- Both directions of a run. -/
structure Both (cap : Nat) (t : Tn) (i0 o0 i1 o1 : List UInt8) : Prop where
  st : isSt t.st = true
  a : Way1 cap t.a i0 o0 (endB t.st)
  b : Way1 cap t.b i1 o1 (endB t.st)
theorem Both.ok {cap : Nat} {t : Tn} {i0 o0 i1 o1 : List UInt8} (h : Both cap t i0 o0 i1 o1) : t.Ok cap := ⟨h.st, h.a.ok, h.b.ok⟩
theorem Both.step {cap : Nat} {t : Tn} {i0 o0 i1 o1 : List UInt8} (h : Both cap t i0 o0 i1 o1) (x : OpV) :
    Both cap (doT cap t x) (i0 ++ inX cap t x 0) (o0 ++ outX t x 0) (i1 ++ inX cap t x 1) (o1 ++ outX t x 1) := by
  have hs : endB t.st = true → endB (doT cap t x).st = true := fun e => by rw [st_end cap t x e]; exact e
  exact ⟨(do_ok h.ok x).st, Way1.step (d := 0) (did cap t x (by decide)) h.a hs, Way1.step (d := 1) (did cap t x (by decide)) h.b hs⟩
theorem Both.run {cap : Nat} (l : List OpV) : ∀ {t : Tn} {i0 o0 i1 o1 : List UInt8}, Both cap t i0 o0 i1 o1 →
    Both cap (runT cap t l) (i0 ++ accL cap (fun t x => inX cap t x 0) t l) (o0 ++ accL cap (fun t x => outX t x 0) t l) (i1 ++ accL cap (fun t x => inX cap t x 1) t l) (o1 ++ accL cap (fun t x => outX t x 1) t l) := by
  induction l with
  | nil => intro t i0 o0 i1 o1 h; simpa [accL, runT] using h
  | cons x l ih =>
    intro t i0 o0 i1 o1 h
    have := ih (h.step x)
    simpa only [accL, runT, List.foldl_cons, List.append_assoc] using this
end Go.Proofs.YtkokcfhfgnkdfaaGreatDoor.L17

/- Queues in memory: what a call may turn; turner, put, drop. -/
namespace Go.Proofs.YtkokcfhfgnkdfaaGreatDoor.L1
open Go.RowKit

theorem ret_bool {a b : Bool} (h : a = b) : Ending.returned (.bool a) = .returned (.bool b) := by rw [h]
theorem ret_int {k : IntKind} {a b : Int} (h : a = b) : Ending.returned (.int k a) = .returned (.int k b) := by rw [h]
theorem bcell {W w1 : World} (hb : Below W.heap.size W w1) : (∀ b o, b < W.heap.size → w1.cell? ⟨b, o, none⟩ = W.cell? ⟨b, o, none⟩) ∧ (∀ b o, b < W.heap.size → w1.frozen? ⟨b, o, none⟩ = W.frozen? ⟨b, o, none⟩) :=
  ⟨fun b o h => hb.cell (p := ⟨b, o, none⟩) h, fun b o h => hb.frozen (p := ⟨b, o, none⟩) h⟩
theorem blt {w : World} {b o : Nat} {v : Value} (h : w.cell? ⟨b, o, none⟩ = some v) : b < w.heap.size := World.block_lt_of_cell? w ⟨b, o, none⟩ h
theorem keep_alloc {W : World} {b o : Nat} {v : Value} (X : Obj) (h : W.cell? ⟨b, o, none⟩ = some v) : (W.alloc X).cell? ⟨b, o, none⟩ = some v :=
  (World.cell?_of_block (w := W) (Below.heap_alloc W X b (blt h))).trans h
theorem keep_alloc_f {W : World} {b o : Nat} {v : Value} {f : Bool} (X : Obj) (h : W.cell? ⟨b, o, none⟩ = some v) (hf : W.frozen? ⟨b, o, none⟩ = f) : (W.alloc X).frozen? ⟨b, o, none⟩ = f :=
  (World.frozen?_of_block (w := W) (Below.heap_alloc W X b (blt h))).trans hf
theorem set_other (W : World) (v : Value) {b bm o om : Nat} (hne : b ≠ bm) : (W.setCell ⟨bm, om, none⟩ v).cell? ⟨b, o, none⟩ = W.cell? ⟨b, o, none⟩ :=
  World.cell?_of_block (w := W) (Below.heap_setCell W ⟨bm, om, none⟩ v b hne)

theorem alloc_cell (W : World) (v : Value) (t : Nat) : (W.alloc (.cells #[v] t)).cell? ⟨W.heap.size, 0, none⟩ = some v := by go_simp

/-- But for the blocks F and K, all that was there is as it was. -/
structure Off (F K : Nat) (w w' : World) : Prop where
  os : w'.os = w.os
  tape : w'.tape = w.tape
  output : w'.output = w.output
  size : w.heap.size ≤ w'.heap.size
  block : ∀ i, i < w.heap.size → i ≠ F → i ≠ K → w'.heap[i]? = w.heap[i]?
theorem Off.refl (F K : Nat) (w : World) : Off F K w w := ⟨rfl, rfl, rfl, Nat.le_refl _, fun _ _ _ _ => rfl⟩
theorem Off.trans {F K : Nat} {a b c : World} (h : Off F K a b) (k : Off F K b c) : Off F K a c :=
  ⟨k.os.trans h.os, k.tape.trans h.tape, k.output.trans h.output, Nat.le_trans h.size k.size, fun i hi h1 h2 => (k.block i (Nat.lt_of_lt_of_le hi h.size) h1 h2).trans (h.block i hi h1 h2)⟩
theorem Off.drew {F K : Nat} {a w : World} (h : Off F K a w) : Off F K a w.drew := ⟨h.os, h.tape, h.output, h.size, h.block⟩
theorem Off.drewN {F K : Nat} {a w : World} (h : Off F K a w) (n : Nat) : Off F K a (w.drewN n) := h.trans ⟨rfl, rfl, rfl, Nat.le_refl _, fun _ _ _ _ => rfl⟩
theorem Off.alloc {F K : Nat} {a w : World} (h : Off F K a w) (o : Obj) : Off F K a (w.alloc o) :=
  h.trans ⟨rfl, rfl, rfl, by simp, fun i hi _ _ => Below.heap_alloc _ _ _ hi⟩
theorem Off.setF {F K : Nat} {a w : World} (h : Off F K a w) (o : Nat) (v : Value) : Off F K a (w.setCell ⟨F, o, none⟩ v) :=
  h.trans ⟨rfl, rfl, rfl, by simp [World.setCell], fun i _ h1 _ => Below.heap_setCell _ _ _ _ h1⟩
theorem Off.setK {F K : Nat} {a w : World} (h : Off F K a w) (o : Nat) (v : Value) : Off F K a (w.setCell ⟨K, o, none⟩ v) :=
  h.trans ⟨rfl, rfl, rfl, by simp [World.setCell], fun i _ _ h2 => Below.heap_setCell _ _ _ _ h2⟩
theorem Off.of_below {F K : Nat} {a w : World} (h : Below a.heap.size a w) : Off F K a w := ⟨h.os, h.tape, h.output, h.size, fun i hi _ _ => h.block i hi⟩
theorem Off.below {F K n : Nat} {a w : World} (h : Off F K a w) (hn : n ≤ a.heap.size) (hF : n ≤ F) (hK : n ≤ K) : Below n a w :=
  ⟨h.os, h.tape, h.output, h.size, fun i hi => h.block i (by omega) (by omega) (by omega)⟩
theorem Off.cell {F K : Nat} {a w : World} (h : Off F K a w) {b o : Nat} (hb : b < a.heap.size) (h1 : b ≠ F) (h2 : b ≠ K) : w.cell? ⟨b, o, none⟩ = a.cell? ⟨b, o, none⟩ := World.cell?_of_block (w := a) (h.block b hb h1 h2)
theorem Off.frozen {F K : Nat} {a w : World} (h : Off F K a w) {b o : Nat} (hb : b < a.heap.size) (h1 : b ≠ F) (h2 : b ≠ K) : w.frozen? ⟨b, o, none⟩ = a.frozen? ⟨b, o, none⟩ := World.frozen?_of_block (w := a) (h.block b hb h1 h2)

/-- A queue: its struct in block F, its cells in block K: capacity, first place, how many, all cells. -/
structure IsQ (w : World) (F K cap first cnt : Nat) (cs : List Int) : Prop where
  c0 : w.cell? ⟨F, 0, none⟩ = some (.slice (some ⟨K, 0, none⟩) cap cap)
  c1 : w.cell? ⟨F, 1, none⟩ = some (.int .i64 first)
  c2 : w.cell? ⟨F, 2, none⟩ = some (.int .i64 cnt)
  f1 : w.frozen? ⟨F, 1, none⟩ = false
  f2 : w.frozen? ⟨F, 2, none⟩ = false
  len : cs.length = cap
  k : ∀ j, j < cap → w.cell? ⟨K, j, none⟩ = some (.int .u8 (cs.getD j 0))
  fk : ∀ j, j < cap → w.frozen? ⟨K, j, none⟩ = false
  ne : F ≠ K
  first_lt : first < cap
  cnt_le : cnt ≤ cap
  cap_le : cap ≤ 4096
theorem IsQ.lt {w : World} {F K cap first cnt : Nat} {cs : List Int} (h : IsQ w F K cap first cnt cs) : F < w.heap.size ∧ K < w.heap.size := ⟨blt h.c0, blt (h.k 0 (by have := h.first_lt; omega))⟩
/-- A queue is where its two blocks are. -/
theorem IsQ.same {w w' : World} {F K cap first cnt : Nat} {cs : List Int} (h : IsQ w F K cap first cnt cs) (hF : w'.heap[F]? = w.heap[F]?) (hK : w'.heap[K]? = w.heap[K]?) : IsQ w' F K cap first cnt cs :=
  ⟨(World.cell?_of_block (w := w) hF).trans h.c0, (World.cell?_of_block (w := w) hF).trans h.c1, (World.cell?_of_block (w := w) hF).trans h.c2, (World.frozen?_of_block (w := w) hF).trans h.f1, (World.frozen?_of_block (w := w) hF).trans h.f2, h.len,
    fun j hj => (World.cell?_of_block (w := w) hK).trans (h.k j hj), fun j hj => (World.frozen?_of_block (w := w) hK).trans (h.fk j hj), h.ne, h.first_lt, h.cnt_le, h.cap_le⟩
theorem IsQ.drew {w : World} {F K cap first cnt : Nat} {cs : List Int} (h : IsQ w F K cap first cnt cs) : IsQ w.drew F K cap first cnt cs := h.same rfl rfl
theorem IsQ.drewN {w : World} {F K cap first cnt : Nat} {cs : List Int} (h : IsQ w F K cap first cnt cs) (n : Nat) : IsQ (w.drewN n) F K cap first cnt cs := h.same rfl rfl
theorem IsQ.below {w w' : World} {n F K cap first cnt : Nat} {cs : List Int} (h : IsQ w F K cap first cnt cs) (hb : Below n w w') (hF : F < n) (hK : K < n) : IsQ w' F K cap first cnt cs := h.same (hb.block F hF) (hb.block K hK)

/-- A cell of the queue is written. -/
theorem IsQ.setK {w : World} {F K cap first cnt : Nat} {cs : List Int} (h : IsQ w F K cap first cnt cs) {i : Nat} (hi : i < cap) (b : Int) : IsQ (w.setCell ⟨K, i, none⟩ (.int .u8 b)) F K cap first cnt (cs.set i b) where
  c0 := (set_other _ _ h.ne).trans h.c0
  c1 := (set_other _ _ h.ne).trans h.c1
  c2 := (set_other _ _ h.ne).trans h.c2
  f1 := (World.frozen?_setCell ..).trans h.f1
  f2 := (World.frozen?_setCell ..).trans h.f2
  len := by rw [List.length_set]; exact h.len
  k j hj := by
    by_cases e : i = j
    · subst e
      rw [World.cell?_setCell_same' _ _ _ (by rw [h.k _ hi]; rfl)]
      simp [List.getD_eq_getElem?_getD, h.len, hi]
    · rw [World.cell?_setCell_other _ _ _ _ (fun x => e (congrArg Addr.off x)), h.k j hj]
      simp [List.getD_eq_getElem?_getD, e]
  fk j hj := (World.frozen?_setCell ..).trans (h.fk j hj)
  ne := h.ne
  first_lt := h.first_lt
  cnt_le := h.cnt_le
  cap_le := h.cap_le
/-- How many there are is written. -/
theorem IsQ.setCnt {w : World} {F K cap first cnt : Nat} {cs : List Int} (h : IsQ w F K cap first cnt cs) {n : Nat} (hn : n ≤ cap) : IsQ (w.setCell ⟨F, 2, none⟩ (.int .i64 n)) F K cap first n cs where
  c0 := (World.cell?_setCell_other _ _ _ _ (by intro x; cases x)).trans h.c0
  c1 := (World.cell?_setCell_other _ _ _ _ (by intro x; cases x)).trans h.c1
  c2 := World.cell?_setCell_same' _ _ _ (by rw [h.c2]; rfl)
  f1 := (World.frozen?_setCell ..).trans h.f1
  f2 := (World.frozen?_setCell ..).trans h.f2
  len := h.len
  k j hj := (set_other _ _ h.ne.symm).trans (h.k j hj)
  fk j hj := (World.frozen?_setCell ..).trans (h.fk j hj)
  ne := h.ne
  first_lt := h.first_lt
  cnt_le := hn
  cap_le := h.cap_le
/-- The first place is written. -/
theorem IsQ.setFirst {w : World} {F K cap first cnt : Nat} {cs : List Int} (h : IsQ w F K cap first cnt cs) {n : Nat} (hn : n < cap) : IsQ (w.setCell ⟨F, 1, none⟩ (.int .i64 n)) F K cap n cnt cs where
  c0 := (World.cell?_setCell_other _ _ _ _ (by intro x; cases x)).trans h.c0
  c1 := World.cell?_setCell_same' _ _ _ (by rw [h.c1]; rfl)
  c2 := (World.cell?_setCell_other _ _ _ _ (by intro x; cases x)).trans h.c2
  f1 := (World.frozen?_setCell ..).trans h.f1
  f2 := (World.frozen?_setCell ..).trans h.f2
  len := h.len
  k j hj := (set_other _ _ h.ne.symm).trans (h.k j hj)
  fk j hj := (World.frozen?_setCell ..).trans (h.fk j hj)
  ne := h.ne
  first_lt := hn
  cnt_le := h.cnt_le
  cap_le := h.cap_le

set_option maxHeartbeats 400000 in
theorem turner_any (n : Int) (w : World) :
    Calls Tryz.prog 122 #[.int .i64 n] w fun e w' => e = .returned (.func (.func 128) #[] #[.pointer (some ⟨w.heap.size, 0, none⟩)]) ∧ w' = w.alloc (.cells #[.int .i64 n] 3) := by
  go_enter Tryz.func122, Tryz.ntmps122
  go_wp2
  go_ret
  exact ⟨rfl, rfl⟩

set_option maxHeartbeats 400000 in
theorem turn_any (c b n T : Nat) (w : World) (hc : c ≤ 1000000) (hb : b ≤ 1000000) (hn : n ≤ 1000000) (hn0 : 0 < n) (hT : w.cell? ⟨T, 0, none⟩ = some (.int .i64 n)) :
    Calls Tryz.prog 128 #[.int .i64 c, .int .i64 b, .pointer (some ⟨T, 0, none⟩)] w fun e w' => e = .returned (.int .i64 (((c + b) % n : Nat) : Int)) ∧ w = w' := by
  have h1 : (c : Int) ≤ 1000000 := by omega
  have h2 : (b : Int) ≤ 1000000 := by omega
  have h3 : (n : Int) ≤ 1000000 := by omega
  have h4 : (0 : Int) < (n : Int) := by omega
  have h5 : ((n : Int) == 0) = false := by simp; omega
  go_enter Tryz.func128, Tryz.ntmps128
  go_wp2
  go_ret
  exact ⟨ret_int (by rw [Int.natCast_emod, Int.natCast_add]), rfl⟩
end Go.Proofs.YtkokcfhfgnkdfaaGreatDoor.L1

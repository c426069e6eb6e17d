/- C3A, C3B, C3C, C3D, C3E, C3F, C3G -/
import Derived.Test.YtkokcfhfgnkdfaaGreatDoorZ0
import Derived.WalkKit
import Derived.WalkLawsBesides
import Derived.WalkSpells
import Derived.Outline
import Derived.Deep.DeepFit
import Derived.Lib.Hide
import Derived.BigQuiet
import Derived.Deep.QuietTactic
import Derived.Maps.RangeWalk
import Derived.ScopeJumps
import Derived.WalkMore
import Derived.RangeFuncNested
import Derived.RangeFuncBound
import Derived.RangeFuncCalls
import Derived.RangeFuncLeaves
import Derived.RangeFuncBox
import Derived.Shelf.Abstract
import Derived.Shelf.RegionOpen
import Derived.OwnWalkIn
import Derived.TacticsInMore
import Derived.LoopNIn
import Derived.LoopIn
set_option linter.unusedVariables false
set_option linter.unusedSimpArgs false
/- Contracts of the functions of package credit that only compute. -/
namespace Go.Proofs.YtkokcfhfgnkdfaaGreatDoor.L13
open Go.RowKit
open Go.WideMaps (string_law)

theorem ret_bool {a b : Bool} (h : a = b) : Ending.returned (.bool a) = .returned (.bool b) := by rw [h]
theorem ret_int {k : IntKind} {a b : Int} (h : a = b) : Ending.returned (.int k a) = .returned (.int k b) := by rw [h]

/-- What 'isBounded' says. -/
def bndB (g s : Int) : Bool := decide (0 ≤ s ∧ s ≤ g ∧ g ≤ 1000000000000)
/-- What 'isWindow' says. -/
def winB (g s : Int) : Bool := decide (wrap64 (g - s) ≤ 65536)
/-- What 'Right' says. -/
def rightB (g s : Int) : Bool := bndB g s && winB g s

set_option maxHeartbeats 400000 in
theorem left_any (g s : Int) (w : World) :
    Calls Tryz.prog 118 #[.agg #[.int .i64 g, .int .i64 s]] w fun e w' => e = .returned (.int .i64 (wrap64 (g - s))) ∧ Below w.heap.size w w' := by
  go_enter Tryz.func118, Tryz.ntmps118
  go_wp2
  go_ret
  exact ⟨rfl, (Below.refl _ _).alloc (Nat.le_refl _) _⟩

set_option maxHeartbeats 400000 in
theorem bounded_any (g s : Int) (w : World) :
    Calls Tryz.prog 124 #[.agg #[.int .i64 g, .int .i64 s]] w fun e w' => e = .returned (.bool (bndB g s)) ∧ Below w.heap.size w w' := by
  go_enter Tryz.func124, Tryz.ntmps124
  go_wp2
  all_goals
    go_ret
    exact ⟨ret_bool (by unfold bndB; symm; simp only [decide_eq_false_iff_not, decide_eq_true_eq]; omega), (Below.refl _ _).alloc (Nat.le_refl _) _⟩

set_option maxHeartbeats 400000 in
theorem window_any (g s : Int) (w : World) :
    Calls Tryz.prog 125 #[.agg #[.int .i64 g, .int .i64 s]] w fun e w' => e = .returned (.bool (winB g s)) ∧ Below w.heap.size w w' := by
  go_enter Tryz.func125, Tryz.ntmps125
  go_wp2_with (go_at_call 118; refine (left_any _ _ _).mono ?_; rintro e w' ⟨rfl, hb⟩)
  go_ret
  refine ⟨rfl, ((Below.refl _ _).alloc (Nat.le_refl _) _).trans (hb.mono (by simp))⟩


/-- A literal's entry, laid into a map of the call's own ('wpList_mapUpdate_own' at 'Op.insert'). -/
theorem wpList_insert_own {H : Type} {P : Program} (w : World) {ops : Array Oper} {rest : List Oper} {o : Oper} {a : Act} {Q : Exit → Act → World → Prop}
    (hg : o.guard = none) (m x v : Operand) (t : TypeId) (hop : o.op = Op.insert t m x v)
    (k e : TypeId) (K : Maps.Keyed P k) (ht : P.underlying t = some (.map k e)) (R : Value → Option (DataW H × List MemPlace)) (b n : Nat) (D : DataW H)
    (hm : a.eval m = .map (some b)) (hown : w.ownsMap P k R b n D) (hn : n < maxLen) (key val : Value) (kl : Lit) (hx : a.eval x = key) (hv : a.eval v = val) (hkey : keyOf P k key = some kl)
    (d : DataW H) (ps : List MemPlace) (hval : R val = some (d, ps))
    (hK : ∀ w', w'.ownsMap P k R b (n + 1) (D.put kl d) → w.grownBy w' (some b) → wpList P ops Q rest (a.put o.dst undef) w') :
    wpList P ops Q (o :: rest) a w := by
  refine wpList_plain hg fun K' hK' => ?_
  obtain ⟨w', hrun, r1, r2⟩ := hown.update K ht hn hkey hval
  unfold Oper.wp
  simp [execOp, hop, hm, hx, hv, hrun, Result.andThen]
  exact hK' _ _ (hK w' r1 r2)

/-- How the map's elements read: a number each. -/
def fnElem (v : Value) : Option (DataW Unit × List MemPlace) :=
  match v with
  | .func (.func f) a c => if a.size = 0 then if c.size = 0 then if f = 124 then some (.lit (.int .i64 124), []) else if f = 125 then some (.lit (.int .i64 125), []) else none else none else none
  | _ => none
def kBounds : Lit := .string [98, 111, 117, 110, 100, 115]
def kWindow : Lit := .string [119, 105, 110, 100, 111, 119]
def rulesD : DataW Unit := ((DataW.map []).put kBounds (.lit (.int .i64 124))).put kWindow (.lit (.int .i64 125))
theorem law9 : Maps.Keyed Tryz.prog 9 := Maps.Keyed.of_law (string_law Tryz.underlying9)

set_option maxHeartbeats 400000 in
theorem rules_any (w : World) :
    Calls Tryz.prog 119 #[] w fun e w' => e = .returned (.map (some w.heap.size)) ∧ w'.ownsMap Tryz.prog 9 fnElem w.heap.size 2 rulesD ∧ Below w.heap.size w w' := by
  have hmm := @run_makeMap Tryz.prog
  go_enter Tryz.func119, Tryz.ntmps119
  go_wp2_with (first
    | (refine wpList_insert_own _ rfl (.tmp 1) (.const (.string ⟨#[98, 111, 117, 110, 100, 115]⟩)) (.func 124) 175 rfl 9 177 law9 Tryz.underlying175 fnElem w.heap.size 0 (.map []) rfl (World.ownsMap_made _ _ _ _) (by unfold maxLen; omega) _ _ kBounds rfl rfl (by kernel_rfl) (.lit (.int .i64 124)) [] (by rfl) ?_; intro w1 h1 g1)
    | (refine wpList_insert_own _ rfl (.tmp 1) (.const (.string ⟨#[119, 105, 110, 100, 111, 119]⟩)) (.func 125) 175 rfl 9 177 law9 Tryz.underlying175 fnElem w.heap.size 1 _ rfl h1 (by unfold maxLen; omega) _ _ kWindow rfl rfl (by kernel_rfl) (.lit (.int .i64 125)) [] (by rfl) ?_; intro w2 h2 g2))
  go_ret
  exact ⟨rfl, h2, (((Below.refl _ _).alloc (Nat.le_refl _) _).grown g1 (by simp) (fun j hj => by cases hj; exact Nat.le_refl _)).grown g2 (by have := g1.size; simp at this; omega) (fun j hj => by cases hj; exact Nat.le_refl _)⟩
end Go.Proofs.YtkokcfhfgnkdfaaGreatDoor.L13

/- credit.Right: in whatever order its rules are met. -/
namespace Go.Proofs.YtkokcfhfgnkdfaaGreatDoor.L13
open Go.RowKit
open Go.WideMaps (string_law)

/-- The rule that an element is. -/
def fnOf (c : Int) : Value := if c = 124 then .func (.func 124) #[] #[] else .func (.func 125) #[] #[]
theorem fnElem_inv (v : Value) (y : DataW Unit × List MemPlace) (h : fnElem v = some y) : ∃ c : Int, v = fnOf c := by
  unfold fnElem at h
  split at h
  · rename_i f a c
    by_cases h1 : a.size = 0
    · by_cases h2 : c.size = 0
      · obtain rfl := Array.eq_empty_of_size_eq_zero h1
        obtain rfl := Array.eq_empty_of_size_eq_zero h2
        by_cases h3 : f = 124
        · subst h3; exact ⟨124, rfl⟩
        · by_cases h4 : f = 125
          · subst h4; exact ⟨125, rfl⟩
          · simp [h3, h4] at h
      · simp [h2] at h
    · simp [h1] at h
  · cases h

theorem str_inv (key : Value) (kl : Lit) (h : keyOf Tryz.prog 9 key = some kl) : ∃ s : ByteArray, key = .string s := by
  obtain ⟨s, e, _, _⟩ := Go.WideMaps.string_of_keyOf Tryz.underlying9 h
  exact ⟨s, e⟩

theorem at_bounds (z : DataW Unit) : rulesD.atKey kBounds z = .lit (.int .i64 124) := rfl
theorem at_window (z : DataW Unit) : rulesD.atKey kWindow z = .lit (.int .i64 125) := rfl
theorem same_bounds {kl : Lit} (h : kBounds.sameKey kl = true) : kl = kBounds := (WideAt.sameKey_eq h).symm
theorem same_window {kl : Lit} (h : kWindow.sameKey kl = true) : kl = kWindow := (WideAt.sameKey_eq h).symm

/-- What has been asked of the two rules. -/
def Asked (g s : Int) (left : Lit → Bool) : Prop := (left kBounds = false → bndB g s = true) ∧ (left kWindow = false → winB g s = true)
theorem asked_start (g s : Int) : Asked g s (Maps.has rulesD) := ⟨fun h => (by cases h), fun h => (by cases h)⟩
theorem asked_end {g s : Int} {left : Lit → Bool} (h : Asked g s left) (h0 : ∀ kl, left kl = false) : true = rightB g s := by
  unfold rightB; rw [h.1 (h0 _), h.2 (h0 _)]; rfl
theorem asked_bounds {g s : Int} {left : Lit → Bool} (h : Asked g s left) {kl : Lit} (hb : bndB g s = true) (hat : ∀ z, rulesD.atKey kl z = .lit (.int .i64 124)) : Asked g s (fun z => left z && !z.sameKey kl) := by
  refine ⟨fun _ => hb, fun h1 => ?_⟩
  rcases Bool.and_eq_false_iff.1 h1 with h2 | h2
  · exact h.2 h2
  · have e := same_window (by simpa using h2)
    subst e
    have := hat (.lit (.int .i64 0))
    rw [at_window] at this
    cases this
theorem asked_window {g s : Int} {left : Lit → Bool} (h : Asked g s left) {kl : Lit} (hb : winB g s = true) (hat : ∀ z, rulesD.atKey kl z = .lit (.int .i64 125)) : Asked g s (fun z => left z && !z.sameKey kl) := by
  refine ⟨fun h1 => ?_, fun _ => hb⟩
  rcases Bool.and_eq_false_iff.1 h1 with h2 | h2
  · exact h.1 h2
  · have e := same_bounds (by simpa using h2)
    subst e
    have := hat (.lit (.int .i64 0))
    rw [at_bounds] at this
    cases this

theorem grown_of_below {W W' : World} (h : Below W.heap.size W W') : W.grownBy W' none := ⟨h.os, h.tape, h.output, h.size, fun i hi _ => h.block i hi⟩
theorem cell_grown {W W' : World} {r : Nat} (h : W.grownBy W' (some r)) {b o : Nat} (hb : b < W.heap.size) (hne : b ≠ r) : W'.cell? ⟨b, o, none⟩ = W.cell? ⟨b, o, none⟩ :=
  World.cell?_of_block (w := W) (h.block b hb (by simpa using hne))

set_option maxRecDepth 100000 in
set_option maxHeartbeats 1000000 in
theorem right_any (g s : Int) (w : World) :
    Calls Tryz.prog 97 #[.agg #[.int .i64 g, .int .i64 s]] w fun e w' => e = .returned (.bool (rightB g s)) ∧ Below w.heap.size w w' := by
  go_enter Tryz.func97, Tryz.ntmps97
  go_wp2_with (first
    | (go_at_call 119; refine (rules_any _).mono ?_; rintro e w0 ⟨rfl, hown, hb0⟩; simp only [World.size_alloc] at hown hb0)
    | (at_range; refine wpList_range_own _ rfl _ 175 rfl 9 177 law9 Tryz.underlying175 _ _ 2 _ rfl hown ?_; intro w1 hrg1 hg1 hs1))
  go_frame
  have hz0 : w.heap.size + 1 ≤ w0.heap.size := by have := hb0.size; simp at this; omega
  have hb1 : Below (w.heap.size + 1) (w.alloc (.cells #[.int .i64 g, .int .i64 s] 74)) w1 := hb0.grown hg1 hz0 (fun j hj => by cases hj)
  have hbw : Below w.heap.size w w1 := ((Below.refl _ _).alloc (Nat.le_refl _) _).trans (hb1.mono (by omega))
  have k0 : w1.cell? ⟨w.heap.size, 0, none⟩ = some (.int .i64 g) := (hb1.cell (p := ⟨w.heap.size, 0, none⟩) (by simp)).trans (by go_simp)
  have k1 : w1.cell? ⟨w.heap.size, 1, none⟩ = some (.int .i64 s) := (hb1.cell (p := ⟨w.heap.size, 1, none⟩) (by simp)).trans (by go_simp)
  have hle1 : w0.heap.size < w1.heap.size := by omega
  clear hb0 hown hb1 hg1 hs1
  go_loopw [4] (fun _ wr => ∃ left cnt, wr.ranges Tryz.prog 9 fnElem (w.heap.size + 1) w0.heap.size 2 rulesD left cnt ∧ Asked g s left ∧
      wr.cell? ⟨w.heap.size, 0, none⟩ = some (.int .i64 g) ∧ wr.cell? ⟨w.heap.size, 1, none⟩ = some (.int .i64 s) ∧ w0.heap.size < wr.heap.size ∧ Below w.heap.size w wr)
    (fun _ wr => wr.rangeLeft (w.heap.size + 1) w0.heap.size)
  case atStart => exact ⟨_, _, hrg1, asked_start g s, k0, k1, hle1, hbw⟩
  case round =>
    clear hrg1 k0 k1 hle1 hbw
    obtain ⟨left, cnt, hrg, hA, hc0, hc1, hle, hnx⟩ := hrel
    go_wp2_with (first
      | (at_next; refine wpList_next_ranges _ rfl _ rfl 9 law9 fnElem Value.string fnOf str_inv fnElem_inv (w.heap.size + 1) w0.heap.size 2 rulesD left cnt rfl hrg ?_ ?_))
    · intro hcnt hl0
      go_wp2
      go_ret
      exact ⟨ret_bool (asked_end hA hl0), hnx⟩
    · intro x c kl ya yb w2 cnt2 hkey hlk hy hat hrg2 hlt hg2 hs2 hen
      have hd0 : w2.cell? ⟨w.heap.size, 0, none⟩ = some (.int .i64 g) := (cell_grown hg2 (by omega) (by omega)).trans hc0
      have hd1 : w2.cell? ⟨w.heap.size, 1, none⟩ = some (.int .i64 s) := (cell_grown hg2 (by omega) (by omega)).trans hc1
      have hnx2 : Below w.heap.size w w2 := hnx.grown hg2 hnx.size (fun j hj => by cases hj; omega)
      have hm := hrg.left_eq
      have hle2 : w0.heap.size < w2.heap.size := by omega
      clear hc0 hc1 hg2 hs2 hkey hlk
      by_cases hc : c = 124
      rotate_left
      · have hat' : ∀ z, rulesD.atKey kl z = .lit (.int .i64 125) := fun z => by rw [hat z]; simp [fnElem, fnOf, hc] at hy; rw [← hy.1]
        clear hat hy
        have hat := Lib.hid hat'; clear hat'
        simp only [fnOf, hc, if_false] at hen ⊢
        clear hc
        by_cases hB : winB g s = true
        · go_wp2_with (go_at_call 125; refine (window_any _ _ _).mono ?_; rintro e w3 ⟨rfl, hb3⟩)
          have hrg3 := hrg2.kept (row := none) (grown_of_below hb3) (by simp) (by simp)
          go_roundw
          case rel => exact ⟨_, cnt2, hrg3, asked_window hA hB hat.out, (hb3.cell (p := ⟨w.heap.size, 0, none⟩) (show w.heap.size < w2.heap.size by omega)).trans hd0, (hb3.cell (p := ⟨w.heap.size, 1, none⟩) (show w.heap.size < w2.heap.size by omega)).trans hd1, by have := hb3.size; omega, hnx2.trans (hb3.mono (by omega))⟩
          case measure => rw [hrg3.left_eq, hm]; exact hlt
        · have hB' : winB g s = false := by simpa using hB
          clear hB
          go_wp2_with (go_at_call 125; refine (window_any _ _ _).mono ?_; rintro e w3 ⟨rfl, hb3⟩)
          go_ret
          exact ⟨ret_bool (by unfold rightB; rw [hB', Bool.and_false]), hnx2.trans (hb3.mono (by omega))⟩
      · have hat' : ∀ z, rulesD.atKey kl z = .lit (.int .i64 124) := fun z => by rw [hat z]; simp [fnElem, fnOf, hc] at hy; rw [← hy.1]
        clear hat hy
        have hat := Lib.hid hat'; clear hat'
        simp only [fnOf, hc, if_true] at hen ⊢
        clear hc
        by_cases hB : bndB g s = true
        · go_wp2_with (go_at_call 124; refine (bounded_any _ _ _).mono ?_; rintro e w3 ⟨rfl, hb3⟩)
          have hrg3 := hrg2.kept (row := none) (grown_of_below hb3) (by simp) (by simp)
          go_roundw
          case rel => exact ⟨_, cnt2, hrg3, asked_bounds hA hB hat.out, (hb3.cell (p := ⟨w.heap.size, 0, none⟩) (show w.heap.size < w2.heap.size by omega)).trans hd0, (hb3.cell (p := ⟨w.heap.size, 1, none⟩) (show w.heap.size < w2.heap.size by omega)).trans hd1, by have := hb3.size; omega, hnx2.trans (hb3.mono (by omega))⟩
          case measure => rw [hrg3.left_eq, hm]; exact hlt
        · have hB' : bndB g s = false := by simpa using hB
          clear hB
          go_wp2_with (go_at_call 124; refine (bounded_any _ _ _).mono ?_; rintro e w3 ⟨rfl, hb3⟩)
          go_ret
          exact ⟨ret_bool (by unfold rightB; rw [hB', Bool.false_and]), hnx2.trans (hb3.mono (by omega))⟩
end Go.Proofs.YtkokcfhfgnkdfaaGreatDoor.L13

/- credit.changed, Grant, Spend, New, Left. -/
namespace Go.Proofs.YtkokcfhfgnkdfaaGreatDoor.L13
open Go.RowKit

theorem bnd_of {g s : Int} (h : rightB g s = true) : 0 ≤ s ∧ s ≤ g ∧ g ≤ 1000000000000 ∧ g - s ≤ 65536 := by
  unfold rightB bndB winB at h
  rw [Bool.and_eq_true, decide_eq_true_eq, decide_eq_true_eq] at h
  obtain ⟨⟨h1, h2, h3⟩, h4⟩ := h
  simp only [wrap64] at h4
  omega
theorem right_of {g s : Int} (h : 0 ≤ s ∧ s ≤ g ∧ g ≤ 1000000000000 ∧ g - s ≤ 65536) : rightB g s = true := by
  unfold rightB bndB winB
  rw [Bool.and_eq_true, decide_eq_true_eq, decide_eq_true_eq]
  simp only [wrap64]
  omega
theorem right_iff (g s : Int) : rightB g s = true ↔ 0 ≤ s ∧ s ≤ g ∧ g ≤ 1000000000000 ∧ g - s ≤ 65536 := ⟨bnd_of, right_of⟩

set_option maxHeartbeats 400000 in
theorem grant_any (b : Nat) (g n : Int) (w : World) (hc : w.cell? ⟨b, 0, none⟩ = some (.int .i64 g)) (hf : w.frozen? ⟨b, 0, none⟩ = false) :
    Calls Tryz.prog 95 #[.pointer (some ⟨b, 0, none⟩), .int .i64 n] w fun e w' => e = .returned (.tuple #[]) ∧ w' = w.setCell ⟨b, 0, none⟩ (.int .i64 (wrap64 (g + n))) := by
  go_enter Tryz.func95, Tryz.ntmps95
  go_wp2
  go_end0
  exact ⟨rfl, rfl⟩

set_option maxHeartbeats 400000 in
theorem spend_any (b : Nat) (s n : Int) (w : World) (hc : w.cell? ⟨b, 1, none⟩ = some (.int .i64 s)) (hf : w.frozen? ⟨b, 1, none⟩ = false) :
    Calls Tryz.prog 101 #[.pointer (some ⟨b, 0, none⟩), .int .i64 n] w fun e w' => e = .returned (.tuple #[]) ∧ w' = w.setCell ⟨b, 1, none⟩ (.int .i64 (wrap64 (s + n))) := by
  go_enter Tryz.func101, Tryz.ntmps101
  go_wp2
  go_end0
  exact ⟨rfl, rfl⟩

theorem bcell {W w1 : World} (hb : Below W.heap.size W w1) : (∀ b o, b < W.heap.size → w1.cell? ⟨b, o, none⟩ = W.cell? ⟨b, o, none⟩) ∧ (∀ b o, b < W.heap.size → w1.frozen? ⟨b, o, none⟩ = W.frozen? ⟨b, o, none⟩) :=
  ⟨fun b o h => hb.cell (p := ⟨b, o, none⟩) h, fun b o h => hb.frozen (p := ⟨b, o, none⟩) h⟩

set_option maxHeartbeats 400000 in
theorem left2_any (g s : Int) (w : World) :
    Calls Tryz.prog 96 #[.agg #[.int .i64 g, .int .i64 s]] w fun e w' => e = .returned (.int .i64 (if rightB g s = true then g - s else 0)) ∧ Below w.heap.size w w' := by
  by_cases h : rightB g s = true
  · have hb := bnd_of h
    have hw : wrap64 (g - s) = g - s := by simp only [wrap64]; omega
    rw [if_pos h]
    go_enter Tryz.func96, Tryz.ntmps96
    go_wp2_with (first
      | (go_at_call 97; refine (right_any _ _ _).mono ?_; rintro e w1 ⟨rfl, hb1⟩; obtain ⟨hc1, hf1⟩ := bcell hb1)
      | (go_at_call 118; refine (left_any _ _ _).mono ?_; rintro e w2 ⟨rfl, hb2⟩))
    go_ret
    have hz1 := hb1.size
    simp at hz1
    exact ⟨rfl, (((Below.refl _ _).alloc (Nat.le_refl _) _).trans (hb1.mono (by simp))).trans (hb2.mono (by omega))⟩
  · have h' : rightB g s = false := by simpa using h
    rw [if_neg h]
    clear h
    go_enter Tryz.func96, Tryz.ntmps96
    go_wp2_with (first
      | (go_at_call 97; refine (right_any _ _ _).mono ?_; rintro e w1 ⟨rfl, hb1⟩))
    go_ret
    exact ⟨rfl, (((Below.refl _ _).alloc (Nat.le_refl _) _).trans (hb1.mono (by simp)))⟩

set_option maxRecDepth 100000 in
set_option maxHeartbeats 1000000 in
theorem changed_g (g s n : Int) (w : World) (h : rightB g s = true) (h0 : 0 ≤ n) (h1 : n ≤ 65536) (h2 : rightB (g + n) s = true) :
    Calls Tryz.prog 94 #[.agg #[.int .i64 g, .int .i64 s], .int .i64 n, .func (.func 95) #[] #[]] w fun e w' => e = .returned (.tuple #[.agg #[.int .i64 (g + n), .int .i64 s], .int .i64 0]) ∧ Below w.heap.size w w' := by
  obtain ⟨b1, b2, b3, b4⟩ := bnd_of h
  have hw : wrap64 (g + n) = g + n := by simp only [wrap64]; omega
  go_enter Tryz.func94, Tryz.ntmps94
  go_wp2
  go_step3
  go_wp2_with (first
    | (go_at_call 97; refine (right_any _ _ _).mono ?_; rintro e w1 ⟨rfl, hb1⟩; obtain ⟨hc1, hf1⟩ := bcell hb1; have hz1 := hb1.size; simp only [World.size_alloc] at hz1 hb1))
  refine (grant_any _ g n _ ?_ ?_).mono ?_
  · go_simp
  · go_simp
  rintro e w2 ⟨rfl, rfl⟩
  go_wp2_with fail
  refine (right_any _ _ _).mono ?_; rintro e w3 ⟨rfl, hb3⟩; obtain ⟨hc3, hf3⟩ := bcell hb3; have hz3 := hb3.size; simp only [World.size_setCell] at hz3 hb3 hc3 hf3
  have hz : w.heap.size + 1 + 1 < w1.heap.size := by omega
  have hy : w.heap.size + 1 < w1.heap.size := by omega
  go_wp2
  rw [Exit.noGoto_ret]
  refine bodyPost_ret (v := .tuple #[.agg #[.int .i64 (g + n), .int .i64 s], .int .i64 0]) ?_ rfl ⟨rfl, ?_⟩
  · clear hz1 hz3 hb1 hb3
    simp [results, Tryz.results94, go_sem, hc3, hc1, hy]
  · have hW : Below w.heap.size w w3 := ((((((Below.refl _ _).alloc (Nat.le_refl _) _).alloc (by simp) _).alloc (by simp; omega) _).trans (hb1.mono (by omega))).setCell (by simp; omega) _).trans (hb3.mono (by omega))
    repeat (refine Below.setCell ?_ (by simp) _)
    exact hW

/-- What holds at every jump. -/
def AtJump (w : World) (er : Int) (a' : Act) (w' : World) : Prop :=
  (∃ u0 u1 u2 u3 u4 u5 u8 u10 u11 u12 u13 u14 u15 u16 u17 u18 u19 u20 u21 u22 u23 u24 u25 u26 u27 u28 u29 u30 u31 : Value, a' = { tmps := #[u0, u1, u2, u3, u4, u5, .pointer (some ⟨w.heap.size + 1, 0, none⟩), .int .i64 0, u8, .int .i64 er, u10, u11, u12, u13, u14, u15, u16, u17, u18, u19, u20, u21, u22, u23, u24, u25, u26, u27, u28, u29, u30, u31], defers := [] }) ∧
  Below w.heap.size w w' ∧ w.heap.size + 1 < w'.heap.size ∧ w'.cell? ⟨w.heap.size + 1, 0, none⟩ = some (.int .i64 0) ∧ w'.cell? ⟨w.heap.size + 1, 1, none⟩ = some (.int .i64 0) ∧
  w'.frozen? ⟨w.heap.size + 1, 0, none⟩ = false ∧ w'.frozen? ⟨w.heap.size + 1, 1, none⟩ = false

set_option maxRecDepth 100000 in
set_option maxHeartbeats 1000000 in
theorem changed_e1 (g s n : Int) (cv : Value) (w : World) (h : rightB g s = false) :
    Calls Tryz.prog 94 #[.agg #[.int .i64 g, .int .i64 s], .int .i64 n, cv] w fun e w' => e = .returned (.tuple #[.agg #[.int .i64 0, .int .i64 0], .int .i64 2]) ∧ Below w.heap.size w w' := by
  go_enter Tryz.func94, Tryz.ntmps94
  go_wp2
  refine wp_scope_jumps 0 (AtJump w 2) (fun _ _ => 0) rfl ?_ ?_
  · go_wp2_with (first
      | (go_at_call 97; refine (right_any _ _ _).mono ?_; rintro e w1 ⟨rfl, hb1⟩; obtain ⟨hc1, hf1⟩ := bcell hb1; have hz1 := hb1.size; simp only [World.size_alloc] at hz1 hb1))
    go_step3
    refine ⟨rfl, ⟨_, _, _, _, _, _, _, _, _, _, _, _, _, _, _, _, _, _, _, _, _, _, _, _, _, _, _, _, _, rfl⟩, ((((Below.refl _ _).alloc (Nat.le_refl _) _).alloc (by simp) _).alloc (by simp; omega) _).trans (hb1.mono (by omega)), by omega, ?_, ?_, ?_, ?_⟩
    all_goals (clear hb1 hz1; go_simp)

  · rintro a' w' ⟨⟨u0, u1, u2, u3, u4, u5, u8, u10, u11, u12, u13, u14, u15, u16, u17, u18, u19, u20, u21, u22, u23, u24, u25, u26, u27, u28, u29, u30, u31, rfl⟩, hW, hz, hc0, hc1, hf0, hf1⟩
    go_wp2
    simp only [Exit.jump]
    refine bodyPost_ret (v := .tuple #[.agg #[.int .i64 0, .int .i64 0], .int .i64 2]) ?_ rfl ⟨rfl, ?_⟩
    · clear hW hz
      simp [results, Tryz.results94, go_sem, hc0, hc1]
    · repeat (refine Below.setCell ?_ (by simp) _)
      exact hW

set_option maxRecDepth 100000 in
set_option maxHeartbeats 1000000 in
theorem changed_e2 (g s n : Int) (cv : Value) (w : World) (h : rightB g s = true) (h0 : n < 0) :
    Calls Tryz.prog 94 #[.agg #[.int .i64 g, .int .i64 s], .int .i64 n, cv] w fun e w' => e = .returned (.tuple #[.agg #[.int .i64 0, .int .i64 0], .int .i64 2]) ∧ Below w.heap.size w w' := by
  go_enter Tryz.func94, Tryz.ntmps94
  go_wp2
  refine wp_scope_jumps 0 (AtJump w 2) (fun _ _ => 0) rfl ?_ ?_
  · go_wp2_with (first
      | (go_at_call 97; refine (right_any _ _ _).mono ?_; rintro e w1 ⟨rfl, hb1⟩; obtain ⟨hc1, hf1⟩ := bcell hb1; have hz1 := hb1.size; simp only [World.size_alloc] at hz1 hb1))
    go_step3
    refine ⟨rfl, ⟨_, _, _, _, _, _, _, _, _, _, _, _, _, _, _, _, _, _, _, _, _, _, _, _, _, _, _, _, _, rfl⟩, ((((Below.refl _ _).alloc (Nat.le_refl _) _).alloc (by simp) _).alloc (by simp; omega) _).trans (hb1.mono (by omega)), by omega, ?_, ?_, ?_, ?_⟩
    all_goals (clear hb1 hz1; go_simp)

  · rintro a' w' ⟨⟨u0, u1, u2, u3, u4, u5, u8, u10, u11, u12, u13, u14, u15, u16, u17, u18, u19, u20, u21, u22, u23, u24, u25, u26, u27, u28, u29, u30, u31, rfl⟩, hW, hz, hc0, hc1, hf0, hf1⟩
    go_wp2
    simp only [Exit.jump]
    refine bodyPost_ret (v := .tuple #[.agg #[.int .i64 0, .int .i64 0], .int .i64 2]) ?_ rfl ⟨rfl, ?_⟩
    · clear hW hz
      simp [results, Tryz.results94, go_sem, hc0, hc1]
    · repeat (refine Below.setCell ?_ (by simp) _)
      exact hW

set_option maxRecDepth 100000 in
set_option maxHeartbeats 1000000 in
theorem changed_e3 (g s n : Int) (cv : Value) (w : World) (h : rightB g s = true) (h1 : 65536 < n) :
    Calls Tryz.prog 94 #[.agg #[.int .i64 g, .int .i64 s], .int .i64 n, cv] w fun e w' => e = .returned (.tuple #[.agg #[.int .i64 0, .int .i64 0], .int .i64 130]) ∧ Below w.heap.size w w' := by
  go_enter Tryz.func94, Tryz.ntmps94
  go_wp2
  refine wp_scope_jumps 0 (AtJump w 130) (fun _ _ => 0) rfl ?_ ?_
  · go_wp2_with (first
      | (go_at_call 97; refine (right_any _ _ _).mono ?_; rintro e w1 ⟨rfl, hb1⟩; obtain ⟨hc1, hf1⟩ := bcell hb1; have hz1 := hb1.size; simp only [World.size_alloc] at hz1 hb1))
    go_step3
    refine ⟨rfl, ⟨_, _, _, _, _, _, _, _, _, _, _, _, _, _, _, _, _, _, _, _, _, _, _, _, _, _, _, _, _, rfl⟩, ((((Below.refl _ _).alloc (Nat.le_refl _) _).alloc (by simp) _).alloc (by simp; omega) _).trans (hb1.mono (by omega)), by omega, ?_, ?_, ?_, ?_⟩
    all_goals (clear hb1 hz1; go_simp)

  · rintro a' w' ⟨⟨u0, u1, u2, u3, u4, u5, u8, u10, u11, u12, u13, u14, u15, u16, u17, u18, u19, u20, u21, u22, u23, u24, u25, u26, u27, u28, u29, u30, u31, rfl⟩, hW, hz, hc0, hc1, hf0, hf1⟩
    go_wp2
    simp only [Exit.jump]
    refine bodyPost_ret (v := .tuple #[.agg #[.int .i64 0, .int .i64 0], .int .i64 130]) ?_ rfl ⟨rfl, ?_⟩
    · clear hW hz
      simp [results, Tryz.results94, go_sem, hc0, hc1]
    · repeat (refine Below.setCell ?_ (by simp) _)
      exact hW

set_option maxRecDepth 100000 in
set_option maxHeartbeats 1000000 in
theorem changed_g4 (g s n : Int) (w : World) (h : rightB g s = true) (h0 : 0 ≤ n) (h1 : n ≤ 65536) (h2 : rightB (g + n) s = false) :
    Calls Tryz.prog 94 #[.agg #[.int .i64 g, .int .i64 s], .int .i64 n, .func (.func 95) #[] #[]] w fun e w' => e = .returned (.tuple #[.agg #[.int .i64 0, .int .i64 0], .int .i64 130]) ∧ Below w.heap.size w w' := by
  go_enter Tryz.func94, Tryz.ntmps94
  go_wp2
  refine wp_scope_jumps 0 (AtJump w 130) (fun _ _ => 0) rfl ?_ ?_
  · obtain ⟨b1, b2, b3, b4⟩ := bnd_of h
    have hw : wrap64 (g + n) = g + n := by simp only [wrap64]; omega
    go_wp2_with (first
      | (go_at_call 97; refine (right_any _ _ _).mono ?_; rintro e w1 ⟨rfl, hb1⟩; obtain ⟨hc1, hf1⟩ := bcell hb1; have hz1 := hb1.size; simp only [World.size_alloc] at hz1 hb1))
    refine (grant_any _ g n _ ?_ ?_).mono ?_
    · go_simp
    · go_simp
    rintro e w2 ⟨rfl, rfl⟩
    go_wp2_with fail
    refine (right_any _ _ _).mono ?_; rintro e w3 ⟨rfl, hb3⟩; obtain ⟨hc3, hf3⟩ := bcell hb3; have hz3 := hb3.size; simp only [World.size_setCell] at hz3 hb3 hc3 hf3
    have hz : w.heap.size + 1 + 1 < w1.heap.size := by omega
    have hy : w.heap.size + 1 < w1.heap.size := by omega
    go_wp2
    go_step3
    refine ⟨rfl, ⟨_, _, _, _, _, _, _, _, _, _, _, _, _, _, _, _, _, _, _, _, _, _, _, _, _, _, _, _, _, rfl⟩, ((((((Below.refl _ _).alloc (Nat.le_refl _) _).alloc (by simp) _).alloc (by simp; omega) _).trans (hb1.mono (by omega))).setCell (by simp; omega) _).trans (hb3.mono (by omega)), by omega, ?_, ?_, ?_, ?_⟩
    all_goals (clear hb1 hz1 hb3 hz3 hz; go_simp)

  · rintro a' w' ⟨⟨u0, u1, u2, u3, u4, u5, u8, u10, u11, u12, u13, u14, u15, u16, u17, u18, u19, u20, u21, u22, u23, u24, u25, u26, u27, u28, u29, u30, u31, rfl⟩, hW, hz, hc0, hc1, hf0, hf1⟩
    go_wp2
    simp only [Exit.jump]
    refine bodyPost_ret (v := .tuple #[.agg #[.int .i64 0, .int .i64 0], .int .i64 130]) ?_ rfl ⟨rfl, ?_⟩
    · clear hW hz
      simp [results, Tryz.results94, go_sem, hc0, hc1]
    · repeat (refine Below.setCell ?_ (by simp) _)
      exact hW

set_option maxRecDepth 100000 in
set_option maxHeartbeats 1000000 in
theorem changed_s4 (g s n : Int) (w : World) (h : rightB g s = true) (h0 : 0 ≤ n) (h1 : n ≤ 65536) (h2 : rightB g (s + n) = false) :
    Calls Tryz.prog 94 #[.agg #[.int .i64 g, .int .i64 s], .int .i64 n, .func (.func 101) #[] #[]] w fun e w' => e = .returned (.tuple #[.agg #[.int .i64 0, .int .i64 0], .int .i64 130]) ∧ Below w.heap.size w w' := by
  go_enter Tryz.func94, Tryz.ntmps94
  go_wp2
  refine wp_scope_jumps 0 (AtJump w 130) (fun _ _ => 0) rfl ?_ ?_
  · obtain ⟨b1, b2, b3, b4⟩ := bnd_of h
    have hw : wrap64 (s + n) = s + n := by simp only [wrap64]; omega
    go_wp2_with (first
      | (go_at_call 97; refine (right_any _ _ _).mono ?_; rintro e w1 ⟨rfl, hb1⟩; obtain ⟨hc1, hf1⟩ := bcell hb1; have hz1 := hb1.size; simp only [World.size_alloc] at hz1 hb1))
    refine (spend_any _ s n _ ?_ ?_).mono ?_
    · go_simp
    · go_simp
    rintro e w2 ⟨rfl, rfl⟩
    go_wp2_with fail
    refine (right_any _ _ _).mono ?_; rintro e w3 ⟨rfl, hb3⟩; obtain ⟨hc3, hf3⟩ := bcell hb3; have hz3 := hb3.size; simp only [World.size_setCell] at hz3 hb3 hc3 hf3
    have hz : w.heap.size + 1 + 1 < w1.heap.size := by omega
    have hy : w.heap.size + 1 < w1.heap.size := by omega
    go_wp2
    go_step3
    refine ⟨rfl, ⟨_, _, _, _, _, _, _, _, _, _, _, _, _, _, _, _, _, _, _, _, _, _, _, _, _, _, _, _, _, rfl⟩, ((((((Below.refl _ _).alloc (Nat.le_refl _) _).alloc (by simp) _).alloc (by simp; omega) _).trans (hb1.mono (by omega))).setCell (by simp; omega) _).trans (hb3.mono (by omega)), by omega, ?_, ?_, ?_, ?_⟩
    all_goals (clear hb1 hz1 hb3 hz3 hz; go_simp)

  · rintro a' w' ⟨⟨u0, u1, u2, u3, u4, u5, u8, u10, u11, u12, u13, u14, u15, u16, u17, u18, u19, u20, u21, u22, u23, u24, u25, u26, u27, u28, u29, u30, u31, rfl⟩, hW, hz, hc0, hc1, hf0, hf1⟩
    go_wp2
    simp only [Exit.jump]
    refine bodyPost_ret (v := .tuple #[.agg #[.int .i64 0, .int .i64 0], .int .i64 130]) ?_ rfl ⟨rfl, ?_⟩
    · clear hW hz
      simp [results, Tryz.results94, go_sem, hc0, hc1]
    · repeat (refine Below.setCell ?_ (by simp) _)
      exact hW

set_option maxRecDepth 100000 in
set_option maxHeartbeats 1000000 in
theorem changed_s (g s n : Int) (w : World) (h : rightB g s = true) (h0 : 0 ≤ n) (h1 : n ≤ 65536) (h2 : rightB g (s + n) = true) :
    Calls Tryz.prog 94 #[.agg #[.int .i64 g, .int .i64 s], .int .i64 n, .func (.func 101) #[] #[]] w fun e w' => e = .returned (.tuple #[.agg #[.int .i64 g, .int .i64 (s + n)], .int .i64 0]) ∧ Below w.heap.size w w' := by
  obtain ⟨b1, b2, b3, b4⟩ := bnd_of h
  have hw : wrap64 (s + n) = s + n := by simp only [wrap64]; omega
  go_enter Tryz.func94, Tryz.ntmps94
  go_wp2
  go_step3
  go_wp2_with (first
    | (go_at_call 97; refine (right_any _ _ _).mono ?_; rintro e w1 ⟨rfl, hb1⟩; obtain ⟨hc1, hf1⟩ := bcell hb1; have hz1 := hb1.size; simp only [World.size_alloc] at hz1 hb1))
  refine (spend_any _ s n _ ?_ ?_).mono ?_
  · go_simp
  · go_simp
  rintro e w2 ⟨rfl, rfl⟩
  go_wp2_with fail
  refine (right_any _ _ _).mono ?_; rintro e w3 ⟨rfl, hb3⟩; obtain ⟨hc3, hf3⟩ := bcell hb3; have hz3 := hb3.size; simp only [World.size_setCell] at hz3 hb3 hc3 hf3
  have hz : w.heap.size + 1 + 1 < w1.heap.size := by omega
  have hy : w.heap.size + 1 < w1.heap.size := by omega
  go_wp2
  rw [Exit.noGoto_ret]
  refine bodyPost_ret (v := .tuple #[.agg #[.int .i64 g, .int .i64 (s + n)], .int .i64 0]) ?_ rfl ⟨rfl, ?_⟩
  · clear hz1 hz3 hb1 hb3
    simp [results, Tryz.results94, go_sem, hc3, hc1, hy]
  · have hW : Below w.heap.size w w3 := ((((((Below.refl _ _).alloc (Nat.le_refl _) _).alloc (by simp) _).alloc (by simp; omega) _).trans (hb1.mono (by omega))).setCell (by simp; omega) _).trans (hb3.mono (by omega))
    repeat (refine Below.setCell ?_ (by simp) _)
    exact hW

end Go.Proofs.YtkokcfhfgnkdfaaGreatDoor.L13

/- credit.Grant, Spend, New: what they answer. -/
namespace Go.Proofs.YtkokcfhfgnkdfaaGreatDoor.L13
open Go.RowKit

/-- What Grant answers: the error, and the credit. -/
def gE (g s n : Int) : Int := if rightB g s = false ∨ n < 0 then 2 else if 65536 < n ∨ rightB (g + n) s = false then 130 else 0
def gG (g s n : Int) : Int := if gE g s n = 0 then g + n else 0
def gS (g s n : Int) : Int := if gE g s n = 0 then s else 0
/-- What Spend answers. -/
def sE (g s n : Int) : Int := if rightB g s = false ∨ n < 0 then 2 else if 65536 < n ∨ rightB g (s + n) = false then 130 else 0
def sG (g s n : Int) : Int := if sE g s n = 0 then g else 0
def sS (g s n : Int) : Int := if sE g s n = 0 then s + n else 0
/-- What New answers. -/
def nE (n : Int) : Int := if rightB n 0 = true then 0 else 2
def nG (n : Int) : Int := if rightB n 0 = true then n else 0

theorem changed_grant (g s n : Int) (w : World) :
    Calls Tryz.prog 94 #[.agg #[.int .i64 g, .int .i64 s], .int .i64 n, .func (.func 95) #[] #[]] w fun e w' => e = .returned (.tuple #[.agg #[.int .i64 (gG g s n), .int .i64 (gS g s n)], .int .i64 (gE g s n)]) ∧ Below w.heap.size w w' := by
  cases h : rightB g s
  · rw [show gE g s n = 2 by simp [gE, h], show gG g s n = 0 by simp [gG, gE, h], show gS g s n = 0 by simp [gS, gE, h]]
    exact changed_e1 g s n _ w h
  · by_cases h0 : n < 0
    · rw [show gE g s n = 2 by simp [gE, h0], show gG g s n = 0 by simp [gG, gE, h0], show gS g s n = 0 by simp [gS, gE, h0]]
      exact changed_e2 g s n _ w h h0
    · by_cases h1 : 65536 < n
      · rw [show gE g s n = 130 by simp [gE, h, h0, h1], show gG g s n = 0 by simp [gG, gE, h, h0, h1], show gS g s n = 0 by simp [gS, gE, h, h0, h1]]
        exact changed_e3 g s n _ w h h1
      · cases h2 : rightB (g + n) s
        · rw [show gE g s n = 130 by simp [gE, h, h0, h2], show gG g s n = 0 by simp [gG, gE, h, h0, h2], show gS g s n = 0 by simp [gS, gE, h, h0, h2]]
          exact changed_g4 g s n w h (by omega) (by omega) h2
        · rw [show gE g s n = 0 by simp [gE, h, h0, h1, h2], show gG g s n = g + n by simp [gG, gE, h, h0, h1, h2], show gS g s n = s by simp [gS, gE, h, h0, h1, h2]]
          exact changed_g g s n w h (by omega) (by omega) h2

theorem changed_spend (g s n : Int) (w : World) :
    Calls Tryz.prog 94 #[.agg #[.int .i64 g, .int .i64 s], .int .i64 n, .func (.func 101) #[] #[]] w fun e w' => e = .returned (.tuple #[.agg #[.int .i64 (sG g s n), .int .i64 (sS g s n)], .int .i64 (sE g s n)]) ∧ Below w.heap.size w w' := by
  cases h : rightB g s
  · rw [show sE g s n = 2 by simp [sE, h], show sG g s n = 0 by simp [sG, sE, h], show sS g s n = 0 by simp [sS, sE, h]]
    exact changed_e1 g s n _ w h
  · by_cases h0 : n < 0
    · rw [show sE g s n = 2 by simp [sE, h0], show sG g s n = 0 by simp [sG, sE, h0], show sS g s n = 0 by simp [sS, sE, h0]]
      exact changed_e2 g s n _ w h h0
    · by_cases h1 : 65536 < n
      · rw [show sE g s n = 130 by simp [sE, h, h0, h1], show sG g s n = 0 by simp [sG, sE, h, h0, h1], show sS g s n = 0 by simp [sS, sE, h, h0, h1]]
        exact changed_e3 g s n _ w h h1
      · cases h2 : rightB g (s + n)
        · rw [show sE g s n = 130 by simp [sE, h, h0, h2], show sG g s n = 0 by simp [sG, sE, h, h0, h2], show sS g s n = 0 by simp [sS, sE, h, h0, h2]]
          exact changed_s4 g s n w h (by omega) (by omega) h2
        · rw [show sE g s n = 0 by simp [sE, h, h0, h1, h2], show sG g s n = g by simp [sG, sE, h, h0, h1, h2], show sS g s n = s + n by simp [sS, sE, h, h0, h1, h2]]
          exact changed_s g s n w h (by omega) (by omega) h2

set_option maxHeartbeats 400000 in
theorem Grant_any (g s n : Int) (w : World) :
    Calls Tryz.prog 72 #[.agg #[.int .i64 g, .int .i64 s], .int .i64 n] w fun e w' => e = .returned (.tuple #[.agg #[.int .i64 (gG g s n), .int .i64 (gS g s n)], .int .i64 (gE g s n)]) ∧ Below w.heap.size w w' := by
  go_enter Tryz.func72, Tryz.ntmps72
  go_wp2_with (first
    | (go_at_call 94; refine (changed_grant _ _ _ _).mono ?_; rintro e w1 ⟨rfl, hb1⟩; obtain ⟨hc1, hf1⟩ := bcell hb1; have hz1 := hb1.size; simp only [World.size_alloc] at hz1 hb1))
  have hy : w.heap.size + 1 < w1.heap.size := by omega
  refine bodyPost_ret (v := .tuple #[.agg #[.int .i64 (gG g s n), .int .i64 (gS g s n)], .int .i64 (gE g s n)]) ?_ rfl ⟨rfl, ?_⟩
  · clear hz1 hb1
    simp [results, Tryz.results72, go_sem, hc1]
  · have hW : Below w.heap.size w w1 := (((Below.refl _ _).alloc (Nat.le_refl _) _).alloc (by simp) _).trans (hb1.mono (by omega))
    repeat (refine Below.setCell ?_ (by simp) _)
    exact hW

set_option maxHeartbeats 400000 in
theorem Spend_any (g s n : Int) (w : World) :
    Calls Tryz.prog 77 #[.agg #[.int .i64 g, .int .i64 s], .int .i64 n] w fun e w' => e = .returned (.tuple #[.agg #[.int .i64 (sG g s n), .int .i64 (sS g s n)], .int .i64 (sE g s n)]) ∧ Below w.heap.size w w' := by
  go_enter Tryz.func77, Tryz.ntmps77
  go_wp2_with (first
    | (go_at_call 94; refine (changed_spend _ _ _ _).mono ?_; rintro e w1 ⟨rfl, hb1⟩; obtain ⟨hc1, hf1⟩ := bcell hb1; have hz1 := hb1.size; simp only [World.size_alloc] at hz1 hb1))
  have hy : w.heap.size + 1 < w1.heap.size := by omega
  refine bodyPost_ret (v := .tuple #[.agg #[.int .i64 (sG g s n), .int .i64 (sS g s n)], .int .i64 (sE g s n)]) ?_ rfl ⟨rfl, ?_⟩
  · clear hz1 hb1
    simp [results, Tryz.results77, go_sem, hc1]
  · have hW : Below w.heap.size w w1 := (((Below.refl _ _).alloc (Nat.le_refl _) _).alloc (by simp) _).trans (hb1.mono (by omega))
    repeat (refine Below.setCell ?_ (by simp) _)
    exact hW
end Go.Proofs.YtkokcfhfgnkdfaaGreatDoor.L13

/- slices.Values over a slice of ints: its contract (after the guide's worked text); credit.through. -/
namespace Go.Proofs.YtkokcfhfgnkdfaaGreatDoor.L13
open Go.RowKit Go.Shelf
attribute [local go_sem] Oper.semAt_some

/-- What has come when k rounds are over. -/
def upto (f : Nat → Int) (k : Nat) : List Int := (List.range k).map f
theorem upto_succ (f : Nat → Int) (k : Nat) : upto f (k + 1) = upto f k ++ [f k] := by simp [upto, List.range_succ]
theorem upto_length (f : Nat → Int) (k : Nat) : (upto f k).length = k := by simp [upto]
theorem upto_all (zs : List Int) : upto (fun j => zs[j]?.getD 0) zs.length = zs := by
  apply List.ext_getElem
  · simp [upto]
  · intro i h1 h2
    simp [upto, h2]
theorem upto_take (zs : List Int) {k : Nat} (hk : k ≤ zs.length) : upto (fun j => zs[j]?.getD 0) k = zs.take k := by
  apply List.ext_getElem
  · simp [upto, hk]
  · intro i h1 h2
    have : i < zs.length := by simp [upto] at h1; omega
    simp [upto, this]

set_option maxRecDepth 100000 in
set_option maxHeartbeats 2000000 in
theorem values1_in (F : Fence) (n : Nat) (h34 : F.fn 126) (hro : F.round = none) (hn : 1 ≤ n) (l Bs n₀ b off len cap : Nat) (zs : List Int) (hreach : len * 8 ≤ 140737488351232) (hb : b < n₀) (J Jx : List Int → World → Prop)
    (hY : ∀ pre x W, J pre W → pre.length < len → YieldAt F (n - 1) Tryz.prog l #[.int .i64 x] W fun e W' =>
      (e = .returned (.bool true) ∧ J (pre ++ [x]) W' ∧ Below n₀ W W') ∨ (e = .returned (.bool false) ∧ Jx (pre ++ [x]) W'))
    (W : World) (hBs : W.cell? ⟨Bs, 0, none⟩ = some (.slice (some ⟨b, off, none⟩) len cap)) (hc : ∀ j, j < len → W.cell? ⟨b, off + j, none⟩ = some (.int .i64 (zs[j]?.getD 0))) (h0 : J [] W) :
    CallsIn F n Tryz.prog 126 #[.func (.yield l) #[] #[], .pointer (some ⟨Bs, 0, none⟩)] W fun e W' => (∃ v, e = .returned v) ∧
      ((∃ ys, ys = upto (fun j => zs[j]?.getD 0) len ∧ J ys W') ∨ (∃ pre, (∃ k, k ≤ len ∧ pre = upto (fun j => zs[j]?.getD 0) k) ∧ Jx pre W')) := by
  refine callsIn_of_wp Tryz.func126 rfl h34 ?_ hro
  simp only [Tryz.ntmps126, List.size_toArray, List.length_cons, List.length_nil, Nat.reduceAdd, Nat.reduceSub, Array.replicate_succ, Array.replicate_zero, List.push_toArray, List.append_toArray, List.nil_append, List.cons_append]
  gi_wp2
  gi_loopw [7] (fun i wr => ∃ k : Nat, k ≤ len ∧ i = .int .i64 k ∧ J (upto (fun j => zs[j]?.getD 0) k) wr ∧ Below n₀ W wr)
    (fun i _ => len - (intOf i).toNat)
  case atStart => exact ⟨0, Nat.zero_le _, rfl, h0, Below.refl _ _⟩
  case round =>
    obtain ⟨k, hk, rfl, hJs, hnx⟩ := hrel
    have hcx : k < len → wr.cell? ⟨b, off + k, none⟩ = some (.int .i64 (zs[k]?.getD 0)) := fun h => (hnx.cell (p := ⟨b, off + k, none⟩) hb).trans (hc k h)
    by_cases hlt : k < len
    · obtain ⟨fn, tmps, assign, body, hy, hR⟩ := hY _ (zs[k]?.getD 0) wr hJs (by rw [upto_length]; exact hlt)
      have hcx' := hcx hlt
      gi_wp2
      refine hR.mono ?_
      rintro e W3 (⟨rfl, hJ3, hk3⟩ | ⟨rfl, hJx3⟩)
      · gi_wp2
        go_roundw
        case rel => exact ⟨k + 1, by omega, by simp, by rw [upto_succ]; exact hJ3, hnx.trans hk3⟩
        case measure => simp [intOf]; omega
      · gi_wp2
        refine bodyPost_ret (results_none rfl _ _ _) rfl ?_
        exact ⟨⟨_, rfl⟩, .inr ⟨_, ⟨k + 1, by omega, (upto_succ _ _).symm⟩, hJx3⟩⟩
    · obtain rfl : k = len := by omega
      gi_wp2
      go_end0
      exact ⟨⟨_, rfl⟩, .inl ⟨_, rfl, hJs⟩⟩

/-- The slice value sv holds the ints zs, in a block below n₀; or there are none. -/
def Ints (n₀ : Nat) (W : World) (sv : Value) (zs : List Int) : Prop :=
  (∃ a c, sv = .slice a 0 c ∧ zs = []) ∨ ∃ b off cap, sv = .slice (some ⟨b, off, none⟩) zs.length cap ∧ b < n₀ ∧ ∀ j, j < zs.length → W.cell? ⟨b, off + j, none⟩ = some (.int .i64 (zs[j]?.getD 0))
theorem Ints.below {n₀ : Nat} {A B : World} (h : Below n₀ A B) {sv : Value} {zs : List Int} : Ints n₀ A sv zs → Ints n₀ B sv zs
  | .inl e => .inl e
  | .inr ⟨b, off, cap, e, hb, hc⟩ => .inr ⟨b, off, cap, e, hb, fun j hj => (h.cell (p := ⟨b, off + j, none⟩) hb).trans (hc j hj)⟩
theorem Ints.mono {n₀ m : Nat} (h : n₀ ≤ m) {W : World} {sv : Value} {zs : List Int} : Ints n₀ W sv zs → Ints m W sv zs
  | .inl e => .inl e
  | .inr ⟨b, off, cap, e, hb, hc⟩ => .inr ⟨b, off, cap, e, by omega, hc⟩

set_option maxRecDepth 100000 in
set_option maxHeartbeats 1000000 in
theorem values1_nil_in (F : Fence) (n : Nat) (h34 : F.fn 126) (hro : F.round = none) (l Bs : Nat) (J : List Int → World → Prop) (W : World) (a : Option Addr) (c : Nat) (hBs : W.cell? ⟨Bs, 0, none⟩ = some (.slice a 0 c)) (h0 : J [] W) :
    CallsIn F n Tryz.prog 126 #[.func (.yield l) #[] #[], .pointer (some ⟨Bs, 0, none⟩)] W fun e W' => (∃ v, e = .returned v) ∧ J [] W' := by
  refine callsIn_of_wp Tryz.func126 rfl h34 ?_ hro
  simp only [Tryz.ntmps126, List.size_toArray, List.length_cons, List.length_nil, Nat.reduceAdd, Nat.reduceSub, Array.replicate_succ, Array.replicate_zero, List.push_toArray, List.append_toArray, List.nil_append, List.cons_append]
  gi_wp2
  gi_loopw [7] (fun i wr => i = .int .i64 0 ∧ J [] wr) (fun _ _ => 0)
  case atStart => exact ⟨rfl, h0⟩
  case round =>
    obtain ⟨rfl, hJs⟩ := hrel
    gi_wp2
    go_end0
    exact ⟨⟨_, rfl⟩, hJs⟩

set_option maxHeartbeats 1000000 in
theorem values_in (F : Fence) (n : Nat) (h33 : F.fn 120) (hro : F.round = none) (a : Option Addr) (len cap : Nat) (w : World) :
    CallsIn F n Tryz.prog 120 #[.slice a len cap] w fun e w' => e = .returned (.func (.func 126) #[] #[.pointer (some ⟨w.heap.size, 0, none⟩)]) ∧ w' = w.alloc (.cells #[.slice a len cap] 115) := by
  refine callsIn_of_wp Tryz.func120 rfl h33 ?_ hro
  simp only [Tryz.ntmps120, List.size_toArray, List.length_cons, List.length_nil, Nat.reduceAdd, Nat.reduceSub, Array.replicate_succ, Array.replicate_zero, List.push_toArray, List.append_toArray, List.nil_append, List.cons_append]
  gi_wp2
  go_ret
  exact ⟨rfl, rfl⟩

theorem values_stops (F : Fence) (n : Nat) (h34 : F.fn 126) (hro : F.round = none) (hn : 1 ≤ n) (Bs n₀ : Nat) (sv : Value) (zs : List Int) (hreach : zs.length * 8 ≤ 140737488351232) (w : World) (hBs : Bs < w.heap.size) (hn₀ : n₀ ≤ w.heap.size)
    (hc : w.cell? ⟨Bs, 0, none⟩ = some sv) (hI : Ints n₀ w sv zs) :
    SeqStopsK F n Tryz.prog 126 #[.pointer (some ⟨Bs, 0, none⟩)] (fun x : Int => #[Value.int .i64 x]) (Below n₀) (fun ys => ys = zs) (fun pre => pre <+: zs) zs.length w := fun l J Jx W hW _ _ hY h0 => by
  have hc' := (hW.cell (p := ⟨Bs, 0, none⟩) hBs).trans hc
  rcases hI.below (hW.mono hn₀) with ⟨a, c, rfl, rfl⟩ | ⟨b, off, cap, rfl, hb, hcs⟩
  · exact (values1_nil_in F n h34 hro l Bs J W a c hc' h0).mono fun e W' ⟨he, hj⟩ => ⟨he, .inl ⟨_, rfl, hj⟩⟩
  · refine (values1_in F n h34 hro hn l Bs n₀ b off zs.length cap zs hreach hb J Jx hY W hc' hcs h0).mono ?_
    rintro e W' ⟨he, ⟨ys, rfl, hj⟩ | ⟨pre, ⟨k, hk, rfl⟩, hj⟩⟩
    · exact ⟨he, .inl ⟨_, upto_all zs, hj⟩⟩
    · exact ⟨he, .inr ⟨_, by rw [upto_take zs hk]; exact List.take_prefix _ _, hj⟩⟩
end Go.Proofs.YtkokcfhfgnkdfaaGreatDoor.L13

/- credit.through, for a meter's two steps. -/
namespace Go.Proofs.YtkokcfhfgnkdfaaGreatDoor.L13
open Go.RowKit Go.Shelf
attribute [local go_sem] Oper.semAt_some

section
variable {F : Fence} {n : Nat} {P : Program} {b : Frame} {a : Act} {k : List Item} {cs : List Frame} {w : World} {Q : Exit → Act → World → Prop}

theorem stepR_scope {c : Code} : step P (lone (b.atR a (.code (.scope c) :: k)) cs w) = .next (lone (b.atR a (.code c :: .inScope c :: k)) cs w) :=
  step_lone_go (by simp [stepG, stepG.exec, Frame.atR])
theorem stepR_inScope {c : Code} : step P (lone (b.atR a (.inScope c :: k)) cs w) = .next (lone (b.atR a k) cs w) :=
  step_lone_go (by simp [stepG, stepG.exec, Frame.atR])

/-- A scope through which the run goes without a goto, inside a fence. -/
theorem wpIn_scope_straight {c : Code} (h : c.wpIn F n P (Exit.noGoto Q) a w) : (Code.scope c).wpIn F n P Q a w := by
  intro b k cs hro hb hr
  have h0 : (lone (b.atR a (.code (.scope c) :: k)) cs w).fenced P F := fenced_calm hb hr rfl
  obtain ⟨e, a₁, w₁, hq, harr⟩ := h b (.inScope c :: k) cs hro hb hr
  cases e with
  | normal => exact ⟨.normal, a₁, w₁, hq, .head h0 stepR_scope (StepsIn.trans harr (.one (fenced_calm hb hr rfl) stepR_inScope))⟩
  | exit id =>
    have hx : exitTo id (.inScope c :: k) = exitTo id k := by simp [exitTo]
    exact ⟨.exit id, a₁, w₁, hq, fun k' hk => .head h0 stepR_scope (harr.1 k' (by rw [hx]; exact hk)),
      fun hr' hk => let ⟨k₁, h1, h2⟩ := harr.2 hr' (by rw [hx]; exact hk); ⟨k₁, h1, .head h0 stepR_scope h2⟩⟩
  | goto l => exact hq.elim
  | ret => exact ⟨_, a₁, w₁, hq, .of_steps (.one h0 stepR_scope) harr⟩
  | panic ch => exact ⟨_, a₁, w₁, hq, .of_steps (.one h0 stepR_scope) harr⟩
  | outgrown => exact ⟨_, a₁, w₁, hq, .of_steps (.one h0 stepR_scope) harr⟩
end

def lowest (m : Int) (l : List Int) : Int := l.foldl min m
theorem lowest_snoc (m : Int) (l : List Int) (x : Int) : lowest m (l ++ [x]) = min (lowest m l) x := by simp [lowest]
theorem cell_set_other (W : World) (v : Value) {b bm : Nat} (o : Nat) (hne : b ≠ bm) : (W.setCell ⟨bm, 0, none⟩ v).cell? ⟨b, o, none⟩ = W.cell? ⟨b, o, none⟩ :=
  World.cell?_of_block (w := W) (Below.heap_setCell W ⟨bm, 0, none⟩ v b hne)

set_option maxHeartbeats 1000000 in
theorem isCount_in (F : Fence) (n : Nat) (h26 : F.fn 99) (hro : F.round = none) (p : Option Addr) (x : Int) (w : World) :
    CallsIn F n Tryz.prog 99 #[.pointer p, .int .i64 x] w fun e w' => e = .returned (.bool (decide (0 ≤ x))) ∧ w = w' := by
  refine callsIn_of_wp Tryz.func99 rfl h26 ?_ hro
  simp only [Tryz.ntmps99, List.size_toArray, List.length_cons, List.length_nil, Nat.reduceAdd, Nat.reduceSub, Array.replicate_succ, Array.replicate_zero, List.push_toArray, List.append_toArray, List.nil_append, List.cons_append]
  gi_wp2
  go_ret
  exact ⟨rfl, rfl⟩

set_option maxHeartbeats 1000000 in
theorem lower_in (F : Fence) (n : Nat) (h27 : F.fn 100) (hro : F.round = none) (b : Nat) (m x : Int) (w : World) (hc : w.cell? ⟨b, 0, none⟩ = some (.int .i64 m)) (hf : w.frozen? ⟨b, 0, none⟩ = false) :
    CallsIn F n Tryz.prog 100 #[.pointer (some ⟨b, 0, none⟩), .int .i64 x] w fun e w' => e = .returned (.bool true) ∧ w' = w.setCell ⟨b, 0, none⟩ (.int .i64 (min m x)) := by
  refine callsIn_of_wp Tryz.func100 rfl h27 ?_ hro
  simp only [Tryz.ntmps100, List.size_toArray, List.length_cons, List.length_nil, Nat.reduceAdd, Nat.reduceSub, Array.replicate_succ, Array.replicate_zero, List.push_toArray, List.append_toArray, List.nil_append, List.cons_append]
  gi_wp2
  all_goals
    go_ret
    refine ⟨rfl, ?_⟩
    rw [Int.min_def]; first | rw [if_pos (by omega)] | rw [if_neg (by omega)]

set_option maxRecDepth 100000 in
set_option maxHeartbeats 2000000 in
theorem through_in (F : Fence) (n : Nat) (h25 : F.fn 98) (h26 : F.fn 99) (h27 : F.fn 100) (h33 : F.fn 120) (h34 : F.fn 126) (hro : F.round = none) (hn : 5 ≤ n) (a : Option Addr) (len cap : Nat) (zs : List Int) (hreach : zs.length * 8 ≤ 140737488351232)
    (n₀ bS bm : Nat) (m : Int) (w : World) (hI : Ints n₀ w (.slice a len cap) zs) (hm0 : n₀ ≤ bm) (hmb : bm < w.heap.size) (hSb : bS < w.heap.size) (hne : bS ≠ bm)
    (hm : w.cell? ⟨bm, 0, none⟩ = some (.int .i64 m)) (hmf : w.frozen? ⟨bm, 0, none⟩ = false)
    (hs0 : w.cell? ⟨bS, 0, none⟩ = some (.func (.func 99) #[.pointer (some ⟨bm, 0, none⟩)] #[])) (hs1 : w.cell? ⟨bS, 1, none⟩ = some (.func (.func 100) #[.pointer (some ⟨bm, 0, none⟩)] #[])) :
    CallsIn F n Tryz.prog 98 #[.slice a len cap, .slice (some ⟨bS, 0, none⟩) 2 2] w fun e W' => e = .returned (.bool (decide (∀ x ∈ zs, 0 ≤ x))) ∧ ((∀ x ∈ zs, 0 ≤ x) → W'.cell? ⟨bm, 0, none⟩ = some (.int .i64 (lowest m zs))) ∧ Below n₀ w W' := by
  have h1 : 1 ≤ n := by omega
  refine callsIn_of_wp_marks Tryz.func98 rfl h25 ?_ hro
  simp only [Tryz.ntmps98, List.size_toArray, List.length_cons, List.length_nil, Nat.reduceAdd, Nat.reduceSub, Array.replicate_succ, Array.replicate_zero, List.push_toArray, List.append_toArray, List.nil_append, List.cons_append]
  gi_wp2
  refine wpIn_scope_straight ?_
  gi_wp2
  refine wpIn_label ?_
  gi_wp2_with (gi_at_call 120; refine (values_in F (n - 1) h33 hro _ _ _ _).mono ?_; rintro e w' ⟨rfl, rfl⟩)
  have bT := Boxed.new w 178 (.slice (some ⟨bS, 0, none⟩) 2 2)
  have bG := Boxed.new (w.alloc (.cells #[.slice (some ⟨bS, 0, none⟩) 2 2] 178)) 4 (.bool true)
  have bN := Boxed.new ((w.alloc (.cells #[.slice (some ⟨bS, 0, none⟩) 2 2] 178)).alloc (.cells #[.bool true] 4)) 115 (.slice a len cap)
  simp only [World.size_alloc] at bG bN
  have hB0 : Below w.heap.size w (((w.alloc (.cells #[.slice (some ⟨bS, 0, none⟩) 2 2] 178)).alloc (.cells #[.bool true] 4)).alloc (.cells #[.slice a len cap] 115)) := (((Below.refl _ w).alloc (Nat.le_refl _) _).alloc (by simp) _).alloc (by simp; omega) _
  have hB0' : Below n₀ w (((w.alloc (.cells #[.slice (some ⟨bS, 0, none⟩) 2 2] 178)).alloc (.cells #[.bool true] 4)).alloc (.cells #[.slice a len cap] 115)) := hB0.mono (by omega)
  refine wpIn_rangeFunc_ownG hro h1 (gf := 126) (lb := #[.pointer (some ⟨w.heap.size + 1 + 1, 0, none⟩)]) rfl h34 (enters_of Tryz.func126 (by kernel_rfl) rfl)
    (values_stops F (n - 1) h34 hro (by omega) (w.heap.size + 1 + 1) n₀ _ zs hreach _ (by simp) (by simp; omega) bN.cell (hI.below hB0')) belowK_t (belowK_b (by simp; omega)) (Below.refl _ _) (fun _ => rfl)
    (fun pre W => ((∀ y ∈ pre, 0 ≤ y) ∧ W.cell? ⟨bm, 0, none⟩ = some (.int .i64 (lowest m pre)) ∧ W.frozen? ⟨bm, 0, none⟩ = false ∧
        W.cell? ⟨w.heap.size, 0, none⟩ = some (.slice (some ⟨bS, 0, none⟩) 2 2) ∧ W.cell? ⟨w.heap.size + 1, 0, none⟩ = some (.bool true) ∧ W.frozen? ⟨w.heap.size + 1, 0, none⟩ = false ∧
        W.cell? ⟨bS, 0, none⟩ = some (.func (.func 99) #[.pointer (some ⟨bm, 0, none⟩)] #[]) ∧ W.cell? ⟨bS, 1, none⟩ = some (.func (.func 100) #[.pointer (some ⟨bm, 0, none⟩)] #[])) ∧ Below n₀ w W)
    (fun c pre W => (c = .exit 0 ∧ (¬ ∀ y ∈ pre, 0 ≤ y) ∧ W.cell? ⟨w.heap.size + 1, 0, none⟩ = some (.bool false)) ∧ Below n₀ w W)
    (OwnFrom.and (Own.from (fun s A B row hs hg hr => ⟨hs.1, cell_kept hs.2.1 hg hr, (frozen_kept hs.2.1 hg hr).trans hs.2.2.1, cell_kept hs.2.2.2.1 hg hr, cell_kept hs.2.2.2.2.1 hg hr, (frozen_kept hs.2.2.2.2.1 hg hr).trans hs.2.2.2.2.2.1, cell_kept hs.2.2.2.2.2.2.1 hg hr, cell_kept hs.2.2.2.2.2.2.2 hg hr⟩) _) (ownFrom_below (by omega) (by simp; omega)))
    (fun c => OwnFrom.and (Own.from (fun s A B row hs hg hr => ⟨hs.1, hs.2.1, cell_kept hs.2.2 hg hr⟩) _) (ownFrom_below (by omega) (by simp; omega)))
    ⟨⟨by simp, (hB0.cell (p := ⟨bm, 0, none⟩) hmb).trans hm, (hB0.frozen (p := ⟨bm, 0, none⟩) hmb).trans hmf, ((bT.alloc _).alloc _).cell, (bG.alloc _).cell, (bG.alloc _).frozen, (hB0.cell (p := ⟨bS, 0, none⟩) hSb).trans hs0, (hB0.cell (p := ⟨bS, 1, none⟩) hSb).trans hs1⟩, hB0'⟩
    (fun x => { tmps := #[.slice a len cap, .slice (some ⟨bS, 0, none⟩) 2 2, undef, .pointer (some ⟨w.heap.size, 0, none⟩), .bool false, .pointer (some ⟨w.heap.size + 1, 0, none⟩), .int .i64 x, undef, undef, .slice a len cap, .func (.func 126) #[] #[.pointer (some ⟨w.heap.size + 1 + 1, 0, none⟩)], .int .i64 x, undef, undef, undef, undef, undef, undef, undef, undef, undef, undef, undef, undef], defers := [] }) ?assign ?body ?done ?stop
  case assign =>
    intro l x W K hK
    gi_wp2
    exact hK
  case body =>
    rintro l pre x W ⟨⟨hp, km, kf, kT, kG, kGf, k0, k1⟩, hB⟩ _
    clear hI bT bG bN hB0 hB0' hm hmf hs0 hs1
    have h3 : 1 ≤ n - 1 - 1 := by omega
    by_cases hx : 0 ≤ x
    · gi_wp2_with fail
      refine wpIn_loop_rounds 3 ?_
      rw [roundsIn_succ]
      gi_wp2_with (gi_at_call 99; refine (CallsIn.inRound l (isCount_in F _ h26 hro _ _ _)).mono ?_; rintro e w' ⟨rfl, rfl⟩)
      rw [roundsIn_succ]
      gi_wp2_with (gi_at_call 100; refine (CallsIn.inRound l (lower_in F _ h27 hro bm _ x _ km kf)).mono ?_; rintro e w' ⟨rfl, rfl⟩)
      rw [roundsIn_succ]
      gi_wp2
      have hsb : w.heap.size ≠ bm := by omega
      have hsb1 : w.heap.size + 1 ≠ bm := by omega
      exact ⟨(KeepsOthers.setCell _ _ _).from _, (Below.refl n₀ W).setCell (p := ⟨bm, 0, none⟩) hm0 _,
        ⟨fun y hy => (List.mem_append.1 hy).elim (hp y) (fun e => by simp at e; subst e; exact hx), by rw [lowest_snoc]; exact World.cell?_setCell_same' _ _ _ (by rw [km]; rfl), by rw [World.frozen?_setCell]; exact kf,
          (cell_set_other _ _ _ hsb).trans kT, (cell_set_other _ _ _ hsb1).trans kG, by rw [World.frozen?_setCell]; exact kGf, (cell_set_other _ _ _ hne).trans k0, (cell_set_other _ _ _ hne).trans k1⟩, hB.setCell (p := ⟨bm, 0, none⟩) hm0 _⟩
    · have hd : decide (0 ≤ x) = false := by simpa using hx
      have hl : ¬ ∀ y ∈ pre ++ [x], 0 ≤ y := fun h => hx (h x (by simp))
      have Hl := Lib.hid hl
      clear hl
      gi_wp2_with fail
      refine wpIn_loop_rounds 3 ?_
      rw [roundsIn_succ]
      gi_wp2_with (gi_at_call 99; refine (CallsIn.inRound l (isCount_in F _ h26 hro _ _ _)).mono ?_; rintro e w' ⟨rfl, rfl⟩)
      exact ⟨(KeepsOthers.setCell _ _ _).from _, ⟨rfl, Hl.out, World.cell?_setCell_same' _ _ _ (by rw [kG]; rfl)⟩, hB.setCell (p := ⟨w.heap.size + 1, 0, none⟩) (by simp; omega) _⟩
  case done =>
    rintro D ys W hD rfl ⟨⟨hp, km, kf, kT, kG, kGf, k0, k1⟩, hB⟩ hK
    gi_wp2
    refine ⟨by simp, .inl ⟨_, _, rfl, run_takeDeferred hK, ?_⟩⟩
    have hc5 := cell_kept km (grownBy_putObj' _ D (.deferred none)) (fun r e => by cases e; exact ⟨_, hK, rfl⟩)
    exact ⟨.bool true, by simp [results, Tryz.f98, go_sem], ret_bool (decide_eq_true hp).symm, fun _ => hc5, hB.trans (belowK_b (w := w) (by omega) W D _ _ (by simp at hD; omega) hK rfl rfl)⟩
  case stop =>
    rintro D c pre W hD ⟨r, rfl⟩ ⟨⟨rfl, hno, kG⟩, hB⟩ hK
    gi_wp2
    refine ⟨by simp, .inl ⟨_, _, rfl, run_takeDeferred hK, ?_⟩⟩
    have hno' : ¬ ∀ y ∈ pre ++ r, 0 ≤ y := fun h => hno (fun y hy => h y (List.mem_append.2 (.inl hy)))
    exact ⟨.bool false, by simp [results, Tryz.f98, go_sem], ret_bool (decide_eq_false hno').symm, fun h => absurd h hno', hB.trans (belowK_b (w := w) (by omega) W D _ _ (by simp at hD; omega) hK rfl rfl)⟩

/-- 'through', outside any fence. -/
theorem through_any (a : Option Addr) (len cap : Nat) (zs : List Int) (hreach : zs.length * 8 ≤ 140737488351232)
    (n₀ bS bm : Nat) (m : Int) (w : World) (hI : Ints n₀ w (.slice a len cap) zs) (hm0 : n₀ ≤ bm) (hmb : bm < w.heap.size) (hSb : bS < w.heap.size) (hne : bS ≠ bm)
    (hm : w.cell? ⟨bm, 0, none⟩ = some (.int .i64 m)) (hmf : w.frozen? ⟨bm, 0, none⟩ = false)
    (hs0 : w.cell? ⟨bS, 0, none⟩ = some (.func (.func 99) #[.pointer (some ⟨bm, 0, none⟩)] #[])) (hs1 : w.cell? ⟨bS, 1, none⟩ = some (.func (.func 100) #[.pointer (some ⟨bm, 0, none⟩)] #[])) :
    Calls Tryz.prog 98 #[.slice a len cap, .slice (some ⟨bS, 0, none⟩) 2 2] w fun e W' => e = .returned (.bool (decide (∀ x ∈ zs, 0 ≤ x))) ∧ ((∀ x ∈ zs, 0 ≤ x) → W'.cell? ⟨bm, 0, none⟩ = some (.int .i64 (lowest m zs))) ∧ Below n₀ w W' :=
  (callsIn_wide (n := 5)).1 (through_in _ 5 trivial trivial trivial trivial trivial rfl (Nat.le_refl _) a len cap zs hreach n₀ bS bm m w hI hm0 hmb hSb hne hm hmf hs0 hs1)
end Go.Proofs.YtkokcfhfgnkdfaaGreatDoor.L13

/- credit.Most; wicketgatelaw13.shown. -/
namespace Go.Proofs.YtkokcfhfgnkdfaaGreatDoor.L13
open Go.RowKit

/-- What Most answers. -/
def mostR (g s : Int) (zs : List Int) : Int := if rightB g s = true ∧ ∀ x ∈ zs, 0 ≤ x then lowest (g - s) zs else 0

set_option maxRecDepth 100000 in
set_option maxHeartbeats 1000000 in
theorem Most_no (g s : Int) (a : Option Addr) (len cap : Nat) (w : World) (h : rightB g s = false) :
    Calls Tryz.prog 73 #[.agg #[.int .i64 g, .int .i64 s], .slice a len cap] w fun e w' => e = .returned (.int .i64 0) ∧ Below w.heap.size w w' := by
  go_enter Tryz.func73, Tryz.ntmps73
  go_wp2_with (first
    | (go_at_call 96; refine (left2_any _ _ _).mono ?_; rintro e w1 ⟨rfl, hb1⟩; obtain ⟨hc1, hf1⟩ := bcell hb1; have hz1 := hb1.size; simp only [World.size_alloc] at hz1 hb1; have hy1 : w.heap.size < w1.heap.size := by omega)
    | (go_at_call 97; refine (right_any _ _ _).mono ?_; rintro e w2 ⟨rfl, hb2⟩; obtain ⟨hc2, hf2⟩ := bcell hb2; have hz2 := hb2.size; simp only [World.size_alloc] at hz2 hb2))
  go_ret
  exact ⟨rfl, ((((Below.refl _ _).alloc (Nat.le_refl _) _).trans (hb1.mono (by omega))).alloc (by omega) _).trans (hb2.mono (by omega))⟩

set_option maxRecDepth 100000 in
set_option maxHeartbeats 1000000 in
theorem Most_yes (g s : Int) (a : Option Addr) (len cap : Nat) (zs : List Int) (hreach : zs.length * 8 ≤ 140737488351232) (w : World) (hI : Ints w.heap.size w (.slice a len cap) zs) (h : rightB g s = true) :
    Calls Tryz.prog 73 #[.agg #[.int .i64 g, .int .i64 s], .slice a len cap] w fun e w' => e = .returned (.int .i64 (mostR g s zs)) ∧ Below w.heap.size w w' := by
  have hI' := Lib.hid hI
  clear hI
  go_enter Tryz.func73, Tryz.ntmps73
  go_wp2_with (first
    | (go_at_call 96; refine (left2_any _ _ _).mono ?_; rintro e w1 ⟨rfl, hb1⟩; obtain ⟨hc1, hf1⟩ := bcell hb1; have hz1 := hb1.size; simp only [World.size_alloc] at hz1 hb1; have hy1 : w.heap.size < w1.heap.size := by omega)
    | (go_at_call 97; refine (right_any _ _ _).mono ?_; rintro e w2 ⟨rfl, hb2⟩; obtain ⟨hc2, hf2⟩ := bcell hb2; have hz2 := hb2.size; simp only [World.size_alloc] at hz2 hb2))
  have hy2 : w1.heap.size < w2.heap.size := by omega
  refine (through_any a len cap zs hreach w.heap.size w2.heap.size w1.heap.size (g - s) _ ?_ (by omega) ?_ ?_ (by omega) ?_ ?_ ?_ ?_).mono ?_
  · exact hI'.out.below ((((((Below.refl _ _).alloc (Nat.le_refl _) _).trans (hb1.mono (by omega))).alloc (by omega) _).trans (hb2.mono (by omega))).alloc (by omega) _)
  · simp only [World.size_alloc]; omega
  · simp only [World.size_alloc]; omega
  · go_simp
  · go_simp
  · go_simp
  · go_simp
  rintro e w3 ⟨rfl, hlow, hb3⟩
  have hW : Below w.heap.size w w3 := ((((((Below.refl _ _).alloc (Nat.le_refl _) _).trans (hb1.mono (by omega))).alloc (by omega) _).trans (hb2.mono (by omega))).alloc (by omega) _).trans hb3
  clear hc1 hf1 hc2 hf2 hb1 hb2 hb3 hz1 hz2
  by_cases hall : ∀ x ∈ zs, 0 ≤ x
  · rw [decide_eq_true hall]
    have hl := hlow hall
    have hA := Lib.hid hall
    clear hlow hall
    go_wp2
    go_ret
    exact ⟨ret_int (by unfold mostR; rw [if_pos ⟨h, hA.out⟩]), hW⟩
  · rw [decide_eq_false hall]
    have hA := Lib.hid hall
    clear hlow hall
    go_wp2
    go_ret
    exact ⟨ret_int (by unfold mostR; rw [if_neg (fun x => hA.out x.2)]), hW⟩

theorem Most_any (g s : Int) (a : Option Addr) (len cap : Nat) (zs : List Int) (hreach : zs.length * 8 ≤ 140737488351232) (w : World) (hI : Ints w.heap.size w (.slice a len cap) zs) :
    Calls Tryz.prog 73 #[.agg #[.int .i64 g, .int .i64 s], .slice a len cap] w fun e w' => e = .returned (.int .i64 (mostR g s zs)) ∧ Below w.heap.size w w' := by
  cases h : rightB g s
  · rw [show mostR g s zs = 0 by unfold mostR; rw [h]; simp]
    exact Most_no g s a len cap w h
  · exact Most_yes g s a len cap zs hreach w hI h
end Go.Proofs.YtkokcfhfgnkdfaaGreatDoor.L13

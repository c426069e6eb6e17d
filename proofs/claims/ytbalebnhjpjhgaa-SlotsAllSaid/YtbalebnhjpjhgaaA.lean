/- Slots in memory; slices.Min, slices.Max. -/
import Derived.Test.YtbalebnhjpjhgaaChecked
import Derived.WalkKit
import Derived.WalkLawsBesides
import Derived.WalkSpells
import Derived.WalkSmall
import Derived.Outline
import Derived.Deep.DeepFit
import Derived.Lib.Hide
import Derived.BigQuiet
import Derived.Deep.QuietTactic
import Derived.Deep.RegionHeld3
import Derived.IntWalk
import Derived.Maps.RangeWalk
import Derived.RangeFuncNested
import Derived.RangeFuncBound
import Derived.RangeFuncCalls
import Derived.RangeFuncLeaves
import Derived.RangeFuncBox
import Derived.Shelf.Abstract
import Derived.Shelf.RegionOpen
import Derived.OwnWalkIn
import Derived.TacticsInMore
import Derived.LoopNIn
import Derived.LoopIn
namespace Go.Proofs.Ytbalebnhjpjhgaa
open Go.RowKit

theorem ret_bool {a b : Bool} (h : a = b) : Ending.returned (.bool a) = .returned (.bool b) := by rw [h]
theorem ret_int {k : IntKind} {a b : Int} (h : a = b) : Ending.returned (.int k a) = .returned (.int k b) := by rw [h]
theorem bcell {W w1 : World} (hb : Below W.heap.size W w1) : (∀ b o, b < W.heap.size → w1.cell? ⟨b, o, none⟩ = W.cell? ⟨b, o, none⟩) ∧ (∀ b o, b < W.heap.size → w1.frozen? ⟨b, o, none⟩ = W.frozen? ⟨b, o, none⟩) :=
  ⟨fun b o h => hb.cell (p := ⟨b, o, none⟩) h, fun b o h => hb.frozen (p := ⟨b, o, none⟩) h⟩
theorem blt {w : World} {b o : Nat} {v : Value} (h : w.cell? ⟨b, o, none⟩ = some v) : b < w.heap.size := World.block_lt_of_cell? w ⟨b, o, none⟩ h
theorem keep_alloc {W : World} {b o : Nat} {v : Value} (X : Obj) (h : W.cell? ⟨b, o, none⟩ = some v) : (W.alloc X).cell? ⟨b, o, none⟩ = some v :=
  (World.cell?_of_block (w := W) (Below.heap_alloc W X b (blt h))).trans h
theorem set_other (W : World) (v : Value) {b bm o om : Nat} (hne : b ≠ bm) : (W.setCell ⟨bm, om, none⟩ v).cell? ⟨b, o, none⟩ = W.cell? ⟨b, o, none⟩ :=
  World.cell?_of_block (w := W) (Below.heap_setCell W ⟨bm, om, none⟩ v b hne)
theorem below_drewN {m : Nat} {a w : World} (h : Below m a w) (n : Nat) : Below m a (w.drewN n) := h.trans ⟨rfl, rfl, rfl, Nat.le_refl _, fun _ _ => rfl⟩
theorem below_drew {m : Nat} {a w : World} (h : Below m a w) : Below m a w.drew := h.trans ⟨rfl, rfl, rfl, Nat.le_refl _, fun _ _ => rfl⟩

/-- The cells from a hold the numbers zs, in a block below n₀. -/
def IntsAt (n₀ : Nat) (W : World) (a : Option Addr) (zs : List Int) : Prop :=
  ∀ i, (h : i < zs.length) → ∃ b off, a = some ⟨b, off, none⟩ ∧ b < n₀ ∧ W.cell? ⟨b, off + i, none⟩ = some (.int .i64 zs[i])
/-- The cells from a hold the truths us, in a block below n₀. -/
def BoolsAt (n₀ : Nat) (W : World) (a : Option Addr) (us : List Bool) : Prop :=
  ∀ i, (h : i < us.length) → ∃ b off, a = some ⟨b, off, none⟩ ∧ b < n₀ ∧ W.cell? ⟨b, off + i, none⟩ = some (.bool us[i])
theorem IntsAt.below {n₀ : Nat} {A B : World} (h : Below n₀ A B) {a : Option Addr} {zs : List Int} (k : IntsAt n₀ A a zs) : IntsAt n₀ B a zs := fun i hi => by
  obtain ⟨b, off, e, hb, hc⟩ := k i hi
  exact ⟨b, off, e, hb, (h.cell (p := ⟨b, off + i, none⟩) hb).trans hc⟩
theorem BoolsAt.below {n₀ : Nat} {A B : World} (h : Below n₀ A B) {a : Option Addr} {zs : List Bool} (k : BoolsAt n₀ A a zs) : BoolsAt n₀ B a zs := fun i hi => by
  obtain ⟨b, off, e, hb, hc⟩ := k i hi
  exact ⟨b, off, e, hb, (h.cell (p := ⟨b, off + i, none⟩) hb).trans hc⟩
theorem IntsAt.mono {n₀ m : Nat} (h : n₀ ≤ m) {W : World} {a : Option Addr} {zs : List Int} (k : IntsAt n₀ W a zs) : IntsAt m W a zs := fun i hi => by
  obtain ⟨b, off, e, hb, hc⟩ := k i hi
  exact ⟨b, off, e, by omega, hc⟩
theorem BoolsAt.mono {n₀ m : Nat} (h : n₀ ≤ m) {W : World} {a : Option Addr} {zs : List Bool} (k : BoolsAt n₀ W a zs) : BoolsAt m W a zs := fun i hi => by
  obtain ⟨b, off, e, hb, hc⟩ := k i hi
  exact ⟨b, off, e, by omega, hc⟩
theorem IntsAt.nil (n₀ : Nat) (W : World) (a : Option Addr) : IntsAt n₀ W a [] := fun i hi => by simp at hi
theorem BoolsAt.nil (n₀ : Nat) (W : World) (a : Option Addr) : BoolsAt n₀ W a [] := fun i hi => by simp at hi

def leastOf (m : Int) (l : List Int) : Int := l.foldl min m
def mostOf (m : Int) (l : List Int) : Int := l.foldl max m
theorem leastOf_snoc (m : Int) (l : List Int) (x : Int) : leastOf m (l ++ [x]) = min (leastOf m l) x := by simp [leastOf]
theorem mostOf_snoc (m : Int) (l : List Int) (x : Int) : mostOf m (l ++ [x]) = max (mostOf m l) x := by simp [mostOf]
theorem leastOf_ge (m x : Int) (l : List Int) : m ≤ leastOf x l ↔ m ≤ x ∧ ∀ y ∈ l, m ≤ y := by
  unfold leastOf
  induction l generalizing x with
  | nil => simp
  | cons y r ih =>
    simp only [List.foldl_cons, ih, List.mem_cons, forall_eq_or_imp]
    constructor
    · rintro ⟨h1, h2⟩; exact ⟨by omega, by omega, h2⟩
    · rintro ⟨h1, h2, h3⟩; exact ⟨by omega, h3⟩
theorem mostOf_le (m x : Int) (l : List Int) : mostOf x l ≤ m ↔ x ≤ m ∧ ∀ y ∈ l, y ≤ m := by
  unfold mostOf
  induction l generalizing x with
  | nil => simp
  | cons y r ih =>
    simp only [List.foldl_cons, ih, List.mem_cons, forall_eq_or_imp]
    constructor
    · rintro ⟨h1, h2⟩; exact ⟨by omega, by omega, h2⟩
    · rintro ⟨h1, h2, h3⟩; exact ⟨by omega, h3⟩
theorem take_snoc (l : List Int) (k : Nat) (h : k < l.length) : l.take (k + 1) = l.take k ++ [l[k]] := List.take_succ_eq_append_getElem h

set_option maxRecDepth 100000 in
set_option maxHeartbeats 1000000 in
theorem min_any (a : Option Addr) (x : Int) (l : List Int) (cap n₀ : Nat) (w : World) (hl : (x :: l).length ≤ 1000) (hI : IntsAt n₀ w a (x :: l)) :
    Calls Try.prog 42 #[.slice a (x :: l).length cap] w fun e w' => e = .returned (.int .i64 (leastOf x l)) ∧ w = w' := by
  obtain ⟨b, off, rfl, hb, hc0⟩ := hI 0 (by simp)
  have hc : ∀ k, (h : k < l.length) → w.cell? ⟨b, off + (k + 1), none⟩ = some (.int .i64 l[k]) := fun k hk => by
    obtain ⟨b', off', e, _, hc⟩ := hI (k + 1) (by simp; omega)
    simp at e; obtain ⟨rfl, rfl⟩ := e
    simpa using hc
  simp only [List.length_cons, List.getElem_cons_zero, Nat.add_zero] at hl hc0 ⊢
  clear hI
  generalize hn : l.length + 1 = n at *
  have hn1 : 1 ≤ n := by omega
  have hn2 : (n : Int) ≤ 1000 := by omega
  go_enter Try.func42, Try.ntmps42
  go_wp2
  go_loop [3, 4] (fun s i => ∃ k : Nat, k ≤ l.length ∧ i = .int .i64 ((k + 1 : Nat) : Int) ∧ s = .int .i64 (leastOf x (l.take k))) (fun _ i => n - (intOf i).toNat)
  case atStart => exact ⟨0, Nat.zero_le _, rfl, rfl⟩
  case round =>
    obtain ⟨k, hk, rfl, rfl⟩ := hrel
    generalize hq : leastOf x (List.take k l) = q at *
    by_cases hlt : k < l.length
    · have hck := hc k hlt
      generalize hlk : l[k] = y at *
      have hd : ((k + 1 : Nat) : Int) < (n : Int) := by omega
      go_wp2
      go_round
      case rel => exact ⟨k + 1, by omega, by congr 1, by
        rw [take_snoc l k hlt, leastOf_snoc, hq, hlk]
        congr 1
        omega⟩
      case measure => simp [intOf]; omega
    · obtain rfl : k = l.length := by omega
      rw [List.take_length] at hq
      subst hn
      go_wp2
      go_ret
      exact ⟨rfl, rfl⟩

set_option maxRecDepth 100000 in
set_option maxHeartbeats 1000000 in
theorem max_any (a : Option Addr) (x : Int) (l : List Int) (cap n₀ : Nat) (w : World) (hl : (x :: l).length ≤ 1000) (hI : IntsAt n₀ w a (x :: l)) :
    Calls Try.prog 43 #[.slice a (x :: l).length cap] w fun e w' => e = .returned (.int .i64 (mostOf x l)) ∧ w = w' := by
  obtain ⟨b, off, rfl, hb, hc0⟩ := hI 0 (by simp)
  have hc : ∀ k, (h : k < l.length) → w.cell? ⟨b, off + (k + 1), none⟩ = some (.int .i64 l[k]) := fun k hk => by
    obtain ⟨b', off', e, _, hc⟩ := hI (k + 1) (by simp; omega)
    simp at e; obtain ⟨rfl, rfl⟩ := e
    simpa using hc
  simp only [List.length_cons, List.getElem_cons_zero, Nat.add_zero] at hl hc0 ⊢
  clear hI
  generalize hn : l.length + 1 = n at *
  have hn1 : 1 ≤ n := by omega
  have hn2 : (n : Int) ≤ 1000 := by omega
  go_enter Try.func43, Try.ntmps43
  go_wp2
  go_loop [3, 4] (fun s i => ∃ k : Nat, k ≤ l.length ∧ i = .int .i64 ((k + 1 : Nat) : Int) ∧ s = .int .i64 (mostOf x (l.take k))) (fun _ i => n - (intOf i).toNat)
  case atStart => exact ⟨0, Nat.zero_le _, rfl, rfl⟩
  case round =>
    obtain ⟨k, hk, rfl, rfl⟩ := hrel
    generalize hq : mostOf x (List.take k l) = q at *
    by_cases hlt : k < l.length
    · have hck := hc k hlt
      generalize hlk : l[k] = y at *
      have hd : ((k + 1 : Nat) : Int) < (n : Int) := by omega
      go_wp2
      go_round
      case rel => exact ⟨k + 1, by omega, by congr 1, by
        rw [take_snoc l k hlt, mostOf_snoc, hq, hlk]
        congr 1
        omega⟩
      case measure => simp [intOf]; omega
    · obtain rfl : k = l.length := by omega
      rw [List.take_length] at hq
      subst hn
      go_wp2
      go_ret
      exact ⟨rfl, rfl⟩
end Go.Proofs.Ytbalebnhjpjhgaa

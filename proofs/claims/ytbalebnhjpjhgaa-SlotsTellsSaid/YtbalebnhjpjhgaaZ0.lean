/- A, N9A, N9B, N9C, N9D, N9E, N9F -/
import Derived.Test.YtbalebnhjpjhgaaProg
import Derived.WalkKit
import Derived.WalkLawsBesides
import Derived.WalkSpells
import Derived.WalkSmall
import Derived.Outline
import Derived.Deep.DeepFit
import Derived.Lib.Hide
import Derived.BigQuiet
import Derived.Deep.QuietTactic
import Derived.Sort.QuietIn
import Derived.Deep.RegionHeld3
import Derived.IntWalk
import Derived.Laws.StructEq
import Derived.Maps.RangeWalk
import Derived.RangeFuncNested
import Derived.RangeFuncBound
import Derived.RangeFuncCalls
import Derived.RangeFuncLeaves
import Derived.RangeFuncBox
import Derived.Shelf.Abstract
import Derived.Shelf.RegionOpen
import Derived.OwnWalkIn
import Derived.TacticsInMore
import Derived.LoopNIn
import Derived.LoopIn
import Derived.Lib.OthersKept
import Derived.Maps.OwnOps
import Derived.Maps.OwnSet
import Derived.Maps.OwnIn
import Derived.Maps.Views
import Derived.Sort.MapsRangeIn
import Derived.Sort.CutIn
import Derived.LoopN
set_option linter.unusedVariables false
set_option linter.unusedSimpArgs false
/- Small lemmas. -/
namespace Go.Proofs.Ytbalebnhjpjhgaa
open Go.RowKit

theorem ret_bool {a b : Bool} (h : a = b) : Ending.returned (.bool a) = .returned (.bool b) := by rw [h]
theorem bcell {W w1 : World} (hb : Below W.heap.size W w1) : (∀ b o, b < W.heap.size → w1.cell? ⟨b, o, none⟩ = W.cell? ⟨b, o, none⟩) ∧ (∀ b o, b < W.heap.size → w1.frozen? ⟨b, o, none⟩ = W.frozen? ⟨b, o, none⟩) :=
  ⟨fun b o h => hb.cell (p := ⟨b, o, none⟩) h, fun b o h => hb.frozen (p := ⟨b, o, none⟩) h⟩
theorem blt {w : World} {b o : Nat} {v : Value} (h : w.cell? ⟨b, o, none⟩ = some v) : b < w.heap.size := World.block_lt_of_cell? w ⟨b, o, none⟩ h
theorem keep_alloc {W : World} {b o : Nat} {v : Value} (X : Obj) (h : W.cell? ⟨b, o, none⟩ = some v) : (W.alloc X).cell? ⟨b, o, none⟩ = some v :=
  (World.cell?_of_block (w := W) (Below.heap_alloc W X b (blt h))).trans h
theorem set_other (W : World) (v : Value) {b bm o om : Nat} (hne : b ≠ bm) : (W.setCell ⟨bm, om, none⟩ v).cell? ⟨b, o, none⟩ = W.cell? ⟨b, o, none⟩ :=
  World.cell?_of_block (w := W) (Below.heap_setCell W ⟨bm, om, none⟩ v b hne)
theorem below_drewN {m : Nat} {a w : World} (h : Below m a w) (n : Nat) : Below m a (w.drewN n) := h.trans ⟨rfl, rfl, rfl, Nat.le_refl _, fun _ _ => rfl⟩
theorem below_drew {m : Nat} {a w : World} (h : Below m a w) : Below m a w.drew := h.trans ⟨rfl, rfl, rfl, Nat.le_refl _, fun _ _ => rfl⟩
theorem below_alloc (w : World) (o : Obj) : Below w.heap.size w (w.alloc o) := (Below.refl _ w).alloc (Nat.le_refl _) o
theorem bal {a W : World} (h : Below a.heap.size a W) (o : Obj) : Below a.heap.size a (W.alloc o) := h.alloc h.size o
theorem btr {a W W' : World} (h : Below a.heap.size a W) (k : Below W.heap.size W W') : Below a.heap.size a W' := h.trans (k.mono h.size)

/-- The bits of a number that a mask leaves. -/
theorem and_mask {a : Int} {m : Nat} (h0 : 0 ≤ a) (h1 : a ≤ 4294967295) (hm : m ≤ 32) : (((BitVec.ofInt 64 a &&& BitVec.ofInt 64 (((2 ^ m : Nat) : Int) - 1)).toNat : Nat) : Int) = a % ((2 ^ m : Nat) : Int) := by
  obtain ⟨n, rfl⟩ : ∃ n : Nat, a = n := ⟨a.toNat, by omega⟩
  have hp : (2 : Nat) ^ m ≤ 2 ^ 32 := Nat.pow_le_pow_right (by omega) hm
  have hp0 := Nat.two_pow_pos m
  rw [show (((2 ^ m : Nat) : Int) - 1) = (((2 ^ m - 1 : Nat)) : Int) by omega]
  simp only [BitVec.ofInt_natCast, BitVec.toNat_and, BitVec.toNat_ofNat]
  rw [Nat.mod_eq_of_lt (show n < 2 ^ 64 by omega), Nat.mod_eq_of_lt (show 2 ^ m - 1 < 2 ^ 64 by omega), Nat.and_two_pow_sub_one_eq_mod]
  rfl
theorem or_mask {a : Int} {m : Nat} (h0 : 0 ≤ a) (h1 : a ≤ 4294967295) (hm : m ≤ 32) (hd : a % ((2 ^ m : Nat) : Int) = 0) : (((BitVec.ofInt 64 a ||| BitVec.ofInt 64 (((2 ^ m : Nat) : Int) - 1)).toNat : Nat) : Int) = a + (((2 ^ m : Nat) : Int) - 1) := by
  obtain ⟨n, rfl⟩ : ∃ n : Nat, a = n := ⟨a.toNat, by omega⟩
  have hp : (2 : Nat) ^ m ≤ 2 ^ 32 := Nat.pow_le_pow_right (by omega) hm
  have hp0 := Nat.two_pow_pos m
  have hd' : n % 2 ^ m = 0 := by omega
  have e := Nat.div_add_mod n (2 ^ m)
  rw [hd', Nat.add_zero] at e
  rw [show (((2 ^ m : Nat) : Int) - 1) = (((2 ^ m - 1 : Nat)) : Int) by omega]
  simp only [BitVec.ofInt_natCast, BitVec.toNat_or, BitVec.toNat_ofNat]
  rw [Nat.mod_eq_of_lt (show n < 2 ^ 64 by omega), Nat.mod_eq_of_lt (show 2 ^ m - 1 < 2 ^ 64 by omega), ← e, ← Nat.two_pow_add_eq_or_of_lt (by omega)]
  omega

theorem pow_cast (m : Nat) : (((2 ^ m : Nat) : Int)) = (2 : Int) ^ m := by simp
theorem pow_le {m : Nat} (hm : m ≤ 32) : (0 : Int) < 2 ^ m ∧ (2 : Int) ^ m ≤ 4294967296 := by
  have hp : (2 : Nat) ^ m ≤ 2 ^ 32 := Nat.pow_le_pow_right (by omega) hm
  have hp0 := Nat.two_pow_pos m
  rw [← pow_cast]; omega
theorem bits_and {a : Int} {m : Nat} (h0 : 0 ≤ a) (h1 : a ≤ 4294967295) (hm : m ≤ 32) : bits .and .i64 a ((2 : Int) ^ m - 1) = a % (2 : Int) ^ m := by
  have e := and_mask h0 h1 hm
  rw [pow_cast] at e
  have e2 : bits .and .i64 a ((2 : Int) ^ m - 1) = IntKind.i64.wrap (((BitVec.ofInt 64 a &&& BitVec.ofInt 64 ((2 : Int) ^ m - 1)).toNat : Nat) : Int) := rfl
  have hp := pow_le hm
  have g1 := Int.emod_nonneg a (show (2 : Int) ^ m ≠ 0 by omega)
  have g2 := Int.emod_lt_of_pos a hp.1
  rw [e2, e]
  exact IntWalk.i64_in _ (by omega)
theorem bits_or {a : Int} {m : Nat} (h0 : 0 ≤ a) (h1 : a ≤ 4294967295) (hm : m ≤ 32) (hd : a % (2 : Int) ^ m = 0) : bits .or .i64 a ((2 : Int) ^ m - 1) = a + ((2 : Int) ^ m - 1) := by
  have e := or_mask h0 h1 hm (by rw [pow_cast]; exact hd)
  rw [pow_cast] at e
  have e2 : bits .or .i64 a ((2 : Int) ^ m - 1) = IntKind.i64.wrap (((BitVec.ofInt 64 a ||| BitVec.ofInt 64 ((2 : Int) ^ m - 1)).toNat : Nat) : Int) := rfl
  have hp := pow_le hm
  rw [e2, e]
  exact IntWalk.i64_in _ (by omega)
end Go.Proofs.Ytbalebnhjpjhgaa

/- Slots in memory; slices.Min, slices.Max. -/
namespace Go.Proofs.Ytbalebnhjpjhgaa.L9
open Go.RowKit

theorem ret_bool {a b : Bool} (h : a = b) : Ending.returned (.bool a) = .returned (.bool b) := by rw [h]
theorem ret_int {k : IntKind} {a b : Int} (h : a = b) : Ending.returned (.int k a) = .returned (.int k b) := by rw [h]
theorem bcell {W w1 : World} (hb : Below W.heap.size W w1) : (∀ b o, b < W.heap.size → w1.cell? ⟨b, o, none⟩ = W.cell? ⟨b, o, none⟩) ∧ (∀ b o, b < W.heap.size → w1.frozen? ⟨b, o, none⟩ = W.frozen? ⟨b, o, none⟩) :=
  ⟨fun b o h => hb.cell (p := ⟨b, o, none⟩) h, fun b o h => hb.frozen (p := ⟨b, o, none⟩) h⟩
theorem blt {w : World} {b o : Nat} {v : Value} (h : w.cell? ⟨b, o, none⟩ = some v) : b < w.heap.size := World.block_lt_of_cell? w ⟨b, o, none⟩ h
theorem keep_alloc {W : World} {b o : Nat} {v : Value} (X : Obj) (h : W.cell? ⟨b, o, none⟩ = some v) : (W.alloc X).cell? ⟨b, o, none⟩ = some v :=
  (World.cell?_of_block (w := W) (Below.heap_alloc W X b (blt h))).trans h
theorem set_other (W : World) (v : Value) {b bm o om : Nat} (hne : b ≠ bm) : (W.setCell ⟨bm, om, none⟩ v).cell? ⟨b, o, none⟩ = W.cell? ⟨b, o, none⟩ :=
  World.cell?_of_block (w := W) (Below.heap_setCell W ⟨bm, om, none⟩ v b hne)
theorem below_drewN {m : Nat} {a w : World} (h : Below m a w) (n : Nat) : Below m a (w.drewN n) := h.trans ⟨rfl, rfl, rfl, Nat.le_refl _, fun _ _ => rfl⟩
theorem below_drew {m : Nat} {a w : World} (h : Below m a w) : Below m a w.drew := h.trans ⟨rfl, rfl, rfl, Nat.le_refl _, fun _ _ => rfl⟩

/-- The cells from a hold the numbers zs, in a block below n₀. -/
def IntsAt (n₀ : Nat) (W : World) (a : Option Addr) (zs : List Int) : Prop :=
  ∀ i, (h : i < zs.length) → ∃ b off, a = some ⟨b, off, none⟩ ∧ b < n₀ ∧ W.cell? ⟨b, off + i, none⟩ = some (.int .i64 zs[i])
/-- The cells from a hold the truths us, in a block below n₀. -/
def BoolsAt (n₀ : Nat) (W : World) (a : Option Addr) (us : List Bool) : Prop :=
  ∀ i, (h : i < us.length) → ∃ b off, a = some ⟨b, off, none⟩ ∧ b < n₀ ∧ W.cell? ⟨b, off + i, none⟩ = some (.bool us[i])
theorem IntsAt.below {n₀ : Nat} {A B : World} (h : Below n₀ A B) {a : Option Addr} {zs : List Int} (k : IntsAt n₀ A a zs) : IntsAt n₀ B a zs := fun i hi => by
  obtain ⟨b, off, e, hb, hc⟩ := k i hi
  exact ⟨b, off, e, hb, (h.cell (p := ⟨b, off + i, none⟩) hb).trans hc⟩
theorem BoolsAt.below {n₀ : Nat} {A B : World} (h : Below n₀ A B) {a : Option Addr} {zs : List Bool} (k : BoolsAt n₀ A a zs) : BoolsAt n₀ B a zs := fun i hi => by
  obtain ⟨b, off, e, hb, hc⟩ := k i hi
  exact ⟨b, off, e, hb, (h.cell (p := ⟨b, off + i, none⟩) hb).trans hc⟩
theorem IntsAt.mono {n₀ m : Nat} (h : n₀ ≤ m) {W : World} {a : Option Addr} {zs : List Int} (k : IntsAt n₀ W a zs) : IntsAt m W a zs := fun i hi => by
  obtain ⟨b, off, e, hb, hc⟩ := k i hi
  exact ⟨b, off, e, by omega, hc⟩
theorem BoolsAt.mono {n₀ m : Nat} (h : n₀ ≤ m) {W : World} {a : Option Addr} {zs : List Bool} (k : BoolsAt n₀ W a zs) : BoolsAt m W a zs := fun i hi => by
  obtain ⟨b, off, e, hb, hc⟩ := k i hi
  exact ⟨b, off, e, by omega, hc⟩
theorem IntsAt.nil (n₀ : Nat) (W : World) (a : Option Addr) : IntsAt n₀ W a [] := fun i hi => by simp at hi
theorem BoolsAt.nil (n₀ : Nat) (W : World) (a : Option Addr) : BoolsAt n₀ W a [] := fun i hi => by simp at hi

def leastOf (m : Int) (l : List Int) : Int := l.foldl min m
def mostOf (m : Int) (l : List Int) : Int := l.foldl max m
theorem leastOf_snoc (m : Int) (l : List Int) (x : Int) : leastOf m (l ++ [x]) = min (leastOf m l) x := by simp [leastOf]
theorem mostOf_snoc (m : Int) (l : List Int) (x : Int) : mostOf m (l ++ [x]) = max (mostOf m l) x := by simp [mostOf]
theorem leastOf_ge (m x : Int) (l : List Int) : m ≤ leastOf x l ↔ m ≤ x ∧ ∀ y ∈ l, m ≤ y := by
  unfold leastOf
  induction l generalizing x with
  | nil => simp
  | cons y r ih =>
    simp only [List.foldl_cons, ih, List.mem_cons, forall_eq_or_imp]
    constructor
    · rintro ⟨h1, h2⟩; exact ⟨by omega, by omega, h2⟩
    · rintro ⟨h1, h2, h3⟩; exact ⟨by omega, h3⟩
theorem mostOf_le (m x : Int) (l : List Int) : mostOf x l ≤ m ↔ x ≤ m ∧ ∀ y ∈ l, y ≤ m := by
  unfold mostOf
  induction l generalizing x with
  | nil => simp
  | cons y r ih =>
    simp only [List.foldl_cons, ih, List.mem_cons, forall_eq_or_imp]
    constructor
    · rintro ⟨h1, h2⟩; exact ⟨by omega, by omega, h2⟩
    · rintro ⟨h1, h2, h3⟩; exact ⟨by omega, h3⟩
theorem take_snoc (l : List Int) (k : Nat) (h : k < l.length) : l.take (k + 1) = l.take k ++ [l[k]] := List.take_succ_eq_append_getElem h

set_option maxRecDepth 100000 in
set_option maxHeartbeats 1000000 in
theorem min_any (a : Option Addr) (x : Int) (l : List Int) (cap n₀ : Nat) (w : World) (hl : (x :: l).length ≤ 1000) (hI : IntsAt n₀ w a (x :: l)) :
    Calls Try.prog 42 #[.slice a (x :: l).length cap] w fun e w' => e = .returned (.int .i64 (leastOf x l)) ∧ w = w' := by
  obtain ⟨b, off, rfl, hb, hc0⟩ := hI 0 (by simp)
  have hc : ∀ k, (h : k < l.length) → w.cell? ⟨b, off + (k + 1), none⟩ = some (.int .i64 l[k]) := fun k hk => by
    obtain ⟨b', off', e, _, hc⟩ := hI (k + 1) (by simp; omega)
    simp at e; obtain ⟨rfl, rfl⟩ := e
    simpa using hc
  simp only [List.length_cons, List.getElem_cons_zero, Nat.add_zero] at hl hc0 ⊢
  clear hI
  generalize hn : l.length + 1 = n at *
  have hn1 : 1 ≤ n := by omega
  have hn2 : (n : Int) ≤ 1000 := by omega
  go_enter Try.func42, Try.ntmps42
  go_wp2
  go_loop [3, 4] (fun s i => ∃ k : Nat, k ≤ l.length ∧ i = .int .i64 ((k + 1 : Nat) : Int) ∧ s = .int .i64 (leastOf x (l.take k))) (fun _ i => n - (intOf i).toNat)
  case atStart => exact ⟨0, Nat.zero_le _, rfl, rfl⟩
  case round =>
    obtain ⟨k, hk, rfl, rfl⟩ := hrel
    generalize hq : leastOf x (List.take k l) = q at *
    by_cases hlt : k < l.length
    · have hck := hc k hlt
      generalize hlk : l[k] = y at *
      have hd : ((k + 1 : Nat) : Int) < (n : Int) := by omega
      go_wp2
      go_round
      case rel => exact ⟨k + 1, by omega, by congr 1, by
        rw [take_snoc l k hlt, leastOf_snoc, hq, hlk]
        congr 1
        omega⟩
      case measure => simp [intOf]; omega
    · obtain rfl : k = l.length := by omega
      rw [List.take_length] at hq
      subst hn
      go_wp2
      go_ret
      exact ⟨rfl, rfl⟩

set_option maxRecDepth 100000 in
set_option maxHeartbeats 1000000 in
theorem max_any (a : Option Addr) (x : Int) (l : List Int) (cap n₀ : Nat) (w : World) (hl : (x :: l).length ≤ 1000) (hI : IntsAt n₀ w a (x :: l)) :
    Calls Try.prog 43 #[.slice a (x :: l).length cap] w fun e w' => e = .returned (.int .i64 (mostOf x l)) ∧ w = w' := by
  obtain ⟨b, off, rfl, hb, hc0⟩ := hI 0 (by simp)
  have hc : ∀ k, (h : k < l.length) → w.cell? ⟨b, off + (k + 1), none⟩ = some (.int .i64 l[k]) := fun k hk => by
    obtain ⟨b', off', e, _, hc⟩ := hI (k + 1) (by simp; omega)
    simp at e; obtain ⟨rfl, rfl⟩ := e
    simpa using hc
  simp only [List.length_cons, List.getElem_cons_zero, Nat.add_zero] at hl hc0 ⊢
  clear hI
  generalize hn : l.length + 1 = n at *
  have hn1 : 1 ≤ n := by omega
  have hn2 : (n : Int) ≤ 1000 := by omega
  go_enter Try.func43, Try.ntmps43
  go_wp2
  go_loop [3, 4] (fun s i => ∃ k : Nat, k ≤ l.length ∧ i = .int .i64 ((k + 1 : Nat) : Int) ∧ s = .int .i64 (mostOf x (l.take k))) (fun _ i => n - (intOf i).toNat)
  case atStart => exact ⟨0, Nat.zero_le _, rfl, rfl⟩
  case round =>
    obtain ⟨k, hk, rfl, rfl⟩ := hrel
    generalize hq : mostOf x (List.take k l) = q at *
    by_cases hlt : k < l.length
    · have hck := hc k hlt
      generalize hlk : l[k] = y at *
      have hd : ((k + 1 : Nat) : Int) < (n : Int) := by omega
      go_wp2
      go_round
      case rel => exact ⟨k + 1, by omega, by congr 1, by
        rw [take_snoc l k hlt, mostOf_snoc, hq, hlk]
        congr 1
        omega⟩
      case measure => simp [intOf]; omega
    · obtain rfl : k = l.length := by omega
      rw [List.take_length] at hq
      subst hn
      go_wp2
      go_ret
      exact ⟨rfl, rfl⟩
end Go.Proofs.Ytbalebnhjpjhgaa.L9

/- slices.Values over ints; handle. -/
namespace Go.Proofs.Ytbalebnhjpjhgaa.L9
open Go.RowKit Go.Shelf
attribute [local go_sem] Oper.semAt_some

theorem grown_of_below {W W' : World} (h : Below W.heap.size W W') : W.grownBy W' none := ⟨h.os, h.tape, h.output, h.size, fun i hi _ => h.block i hi⟩

set_option maxHeartbeats 1000000 in
theorem values_in (F : Fence) (n : Nat) (h44 : F.fn 44) (hro : F.round = none) (a : Option Addr) (len cap : Nat) (w : World) :
    CallsIn F n Try.prog 44 #[.slice a len cap] w fun e w' => e = .returned (.func (.func 49) #[] #[.pointer (some ⟨w.heap.size, 0, none⟩)]) ∧ w' = w.alloc (.cells #[.slice a len cap] 22) := by
  refine callsIn_of_wp Try.func44 rfl h44 ?_ hro
  simp only [Try.ntmps44, List.size_toArray, List.length_cons, List.length_nil, Nat.reduceAdd, Nat.reduceSub, Array.replicate_succ, Array.replicate_zero, List.push_toArray, List.append_toArray, List.nil_append, List.cons_append]
  gi_wp2
  go_ret
  exact ⟨rfl, rfl⟩

set_option maxRecDepth 100000 in
set_option maxHeartbeats 2000000 in
theorem values1_in (F : Fence) (n : Nat) (h49 : F.fn 49) (hro : F.round = none) (hn : 1 ≤ n) (l Bs n₀ : Nat) (a : Option Addr) (cap : Nat) (zs : List Int) (hlen : zs.length ≤ 1000) (J Jx : List Int → World → Prop)
    (hY : ∀ pre x W, J pre W → pre.length < zs.length → YieldAt F (n - 1) Try.prog l #[.int .i64 x] W fun e W' =>
      (e = .returned (.bool true) ∧ J (pre ++ [x]) W' ∧ Below n₀ W W') ∨ (e = .returned (.bool false) ∧ Jx (pre ++ [x]) W'))
    (W : World) (hBs : W.cell? ⟨Bs, 0, none⟩ = some (.slice a zs.length cap)) (hI : IntsAt n₀ W a zs) (h0 : J [] W) :
    CallsIn F n Try.prog 49 #[.func (.yield l) #[] #[], .pointer (some ⟨Bs, 0, none⟩)] W fun e W' => (∃ v, e = .returned v) ∧
      ((∃ ys, ys = zs ∧ J ys W') ∨ (∃ pre, pre <+: zs ∧ Jx pre W')) := by
  generalize hL : zs.length = L at *
  have HI := Lib.hid hI
  clear hI
  refine callsIn_of_wp Try.func49 rfl h49 ?_ hro
  simp only [Try.ntmps49, List.size_toArray, List.length_cons, List.length_nil, Nat.reduceAdd, Nat.reduceSub, Array.replicate_succ, Array.replicate_zero, List.push_toArray, List.append_toArray, List.nil_append, List.cons_append]
  gi_wp2
  gi_loopw [7] (fun i wr => ∃ k : Nat, k ≤ L ∧ i = .int .i64 k ∧ J (zs.take k) wr ∧ Below n₀ W wr)
    (fun i _ => L - (intOf i).toNat)
  case atStart => exact ⟨0, Nat.zero_le _, rfl, h0, Below.refl _ _⟩
  case round =>
    obtain ⟨k, hk, rfl, hJs, hnx⟩ := hrel
    by_cases hlt : k < L
    · have hlt' : k < zs.length := by omega
      obtain ⟨b, off, rfl, hb, hc⟩ := (HI.out.below hnx) k hlt'
      obtain ⟨fn, tmps, assign, body, hy, hR⟩ := hY _ zs[k] wr hJs (by rw [List.length_take, hL]; omega)
      have Hnx := Lib.hid hnx
      have HJ := Lib.hid (take_snoc zs k hlt')
      generalize zs[k] = x at *
      clear hnx hlt'
      gi_wp2
      refine hR.mono ?_
      rintro e W3 (⟨rfl, hJ3, hk3⟩ | ⟨rfl, hJx3⟩)
      · gi_wp2
        go_roundw
        case rel => exact ⟨k + 1, by omega, by simp, by rw [HJ.out]; exact hJ3, Hnx.out.trans hk3⟩
        case measure => simp [intOf]; omega
      · gi_wp2
        refine bodyPost_ret (results_none rfl _ _ _) rfl ?_
        exact ⟨⟨_, rfl⟩, .inr ⟨_, by rw [← HJ.out]; exact List.take_prefix _ _, hJx3⟩⟩
    · obtain rfl : k = L := by omega
      gi_wp2
      go_end0
      exact ⟨⟨_, rfl⟩, .inl ⟨_, by rw [← hL, List.take_length], hJs⟩⟩

theorem values_stops (F : Fence) (n : Nat) (h49 : F.fn 49) (hro : F.round = none) (hn : 1 ≤ n) (Bs n₀ : Nat) (a : Option Addr) (cap : Nat) (zs : List Int) (hlen : zs.length ≤ 1000) (w : World) (hn₀ : n₀ ≤ w.heap.size)
    (hc : w.cell? ⟨Bs, 0, none⟩ = some (.slice a zs.length cap)) (hI : IntsAt n₀ w a zs) :
    SeqStopsK F n Try.prog 49 #[.pointer (some ⟨Bs, 0, none⟩)] (fun x : Int => #[Value.int .i64 x]) (Below n₀) (fun ys => ys = zs) (fun pre => pre <+: zs) zs.length w := fun l J Jx W hW _ _ hY h0 =>
  values1_in F n h49 hro hn l Bs n₀ a cap zs hlen J Jx hY W ((hW.cell (p := ⟨Bs, 0, none⟩) (blt hc)).trans hc) (hI.below (hW.mono hn₀)) h0

/-- A table's value. -/
def tabV (a1 a2 a3 : Option Addr) (c1 c2 c3 : Nat) (gs : List Int) (us : List Bool) (fs : List Int) : Value :=
  .agg #[.slice a1 gs.length c1, .slice a2 us.length c2, .slice a3 fs.length c3]

set_option maxRecDepth 100000 in
set_option maxHeartbeats 1000000 in
theorem handle_in (F : Fence) (n : Nat) (h40 : F.fn 40) (hro : F.round = none) (a1 : Option Addr) (s2 s3 : Value) (c1 len n₀ : Nat) (gs : List Int) (hg : gs.length = len) (k : Nat) (hk : k < gs.length) (w : World) (hn₀ : n₀ ≤ w.heap.size) (hI : IntsAt n₀ w a1 gs) :
    CallsIn F n Try.prog 40 #[.agg #[.slice a1 len c1, s2, s3], .int .i64 k] w fun e w' => e = .returned (.agg #[.int .i64 k, .int .i64 gs[k]]) ∧ Below w.heap.size w w' := by
  obtain ⟨b, off, rfl, hb, hc⟩ := hI k hk
  generalize gs[k] = x at *
  have hk' : k < len := by omega
  have hb' : b < w.heap.size := by omega
  clear hI hg
  refine callsIn_of_wp Try.func40 rfl h40 ?_ hro
  simp only [Try.ntmps40, List.size_toArray, List.length_cons, List.length_nil, Nat.reduceAdd, Nat.reduceSub, Array.replicate_succ, Array.replicate_zero, List.push_toArray, List.append_toArray, List.nil_append, List.cons_append]
  gi_wp2
  refine bodyPost_ret (v := .agg #[.int .i64 k, .int .i64 x]) (by simp [results, Try.results40, go_sem]) rfl ⟨rfl, ?_⟩
  exact ((Below.refl _ w).alloc (Nat.le_refl _) _).alloc (by simp) _
end Go.Proofs.Ytbalebnhjpjhgaa.L9

/- taken: the handles of the slots that are used. -/
namespace Go.Proofs.Ytbalebnhjpjhgaa.L9
open Go.RowKit Go.Shelf
attribute [local go_sem] Oper.semAt_some

/-- The handles of the first k slots that are used. -/
def takenUpto (gs : List Int) (us : List Bool) : Nat → List (Int × Int)
  | 0 => []
  | k + 1 => takenUpto gs us k ++ (if us[k]?.getD false = true then [((k : Int), gs[k]?.getD 0)] else [])
def takenOf (gs : List Int) (us : List Bool) : List (Int × Int) := takenUpto gs us us.length
theorem takenUpto_length_le (gs : List Int) (us : List Bool) (k : Nat) : (takenUpto gs us k).length ≤ k := by
  induction k with
  | zero => simp [takenUpto]
  | succ k ih => simp only [takenUpto, List.length_append]; split <;> simp <;> omega
theorem takenUpto_prefix (gs : List Int) (us : List Bool) {j k : Nat} (h : j ≤ k) : takenUpto gs us j <+: takenUpto gs us k := by
  induction k with
  | zero => obtain rfl : j = 0 := by omega
            exact List.prefix_rfl
  | succ k ih =>
    by_cases e : j = k + 1
    · subst e; exact List.prefix_rfl
    · exact (ih (by omega)).trans (List.prefix_append _ _)
def handV (x : Int × Int) : Value := .agg #[.int .i64 x.1, .int .i64 x.2]

/-- What yields keep: what lies below n₀, and the block Bs. -/
def Kept (n₀ Bs : Nat) (A B : World) : Prop := Below n₀ A B ∧ B.heap[Bs]? = A.heap[Bs]?
theorem Kept.refl (n₀ Bs : Nat) (A : World) : Kept n₀ Bs A A := ⟨Below.refl _ _, rfl⟩
theorem kept_t {n₀ Bs : Nat} {A B C : World} (h : Kept n₀ Bs A B) (k : Kept n₀ Bs B C) : Kept n₀ Bs A C := ⟨h.1.trans k.1, k.2.trans h.2⟩
theorem kept_below {n₀ Bs : Nat} {A B : World} (h : Below A.heap.size A B) (hn : n₀ ≤ A.heap.size) (hB : Bs < A.heap.size) : Kept n₀ Bs A B := ⟨h.mono hn, h.block Bs hB⟩
theorem kept_b {n₀ Bs : Nat} {w : World} (hn : n₀ ≤ w.heap.size) (hB : Bs < w.heap.size) (W : World) (l : Nat) (o o' : Obj) (hl : w.heap.size ≤ l) (h1 : W.heap[l]? = some o) (h2 : o.isCells = false) (h3 : o.isWalk = false) : Kept n₀ Bs W (W.putObj l o') :=
  ⟨belowK_b hn W l o o' hl h1 h2 h3, World.putObj_heap_other (by omega)⟩

set_option maxHeartbeats 1000000 in
theorem taken_in (F : Fence) (n : Nat) (h38 : F.fn 38) (hro : F.round = none) (s1 s2 s3 : Value) (w : World) :
    CallsIn F n Try.prog 38 #[.agg #[s1, s2, s3]] w fun e w' => e = .returned (.func (.func 46) #[] #[.pointer (some ⟨w.heap.size, 0, none⟩)]) ∧ w' = w.alloc (.cells #[s1, s2, s3] 47) := by
  refine callsIn_of_wp Try.func38 rfl h38 ?_ hro
  simp only [Try.ntmps38, List.size_toArray, List.length_cons, List.length_nil, Nat.reduceAdd, Nat.reduceSub, Array.replicate_succ, Array.replicate_zero, List.push_toArray, List.append_toArray, List.nil_append, List.cons_append]
  gi_wp2
  go_ret
  exact ⟨rfl, rfl⟩

set_option maxRecDepth 100000 in
set_option maxHeartbeats 2000000 in
theorem taken1_in (F : Fence) (n : Nat) (h46 : F.fn 46) (h40 : F.fn 40) (hro : F.round = none) (hn : 2 ≤ n) (l Bs n₀ : Nat) (a1 a2 : Option Addr) (s3 : Value) (c1 c2 : Nat) (gs : List Int) (us : List Bool) (hlu : us.length = gs.length) (hlen : gs.length ≤ 1000) (J Jx : List (Int × Int) → World → Prop) (B₀ : Nat) (hJ : AbidesFrom B₀ J)
    (hY : ∀ pre x W, J pre W → pre.length < us.length → YieldAt F (n - 1) Try.prog l #[handV x] W fun e W' =>
      (e = .returned (.bool true) ∧ J (pre ++ [x]) W' ∧ Kept n₀ Bs W W') ∨ (e = .returned (.bool false) ∧ Jx (pre ++ [x]) W'))
    (W : World) (hn₀ : n₀ ≤ W.heap.size) (hB0 : W.cell? ⟨Bs, 0, none⟩ = some (.slice a1 gs.length c1)) (hB1 : W.cell? ⟨Bs, 1, none⟩ = some (.slice a2 us.length c2)) (hB2 : W.cell? ⟨Bs, 2, none⟩ = some s3) (hI : IntsAt n₀ W a1 gs) (hU : BoolsAt n₀ W a2 us) (h0 : J [] W) :
    CallsIn F n Try.prog 46 #[.func (.yield l) #[] #[], .pointer (some ⟨Bs, 0, none⟩)] W fun e W' => (∃ v, e = .returned v) ∧
      ((∃ ys, ys = takenOf gs us ∧ J ys W') ∨ (∃ pre, pre <+: takenOf gs us ∧ Jx pre W')) := by
  have hBW : Bs < W.heap.size := blt hB0
  rw [hlu] at hB1
  generalize hL : gs.length = L at *
  have HI := Lib.hid hI
  have HU := Lib.hid hU
  have HB0 := Lib.hid hB0
  have HB2 := Lib.hid hB2
  clear hI hU
  refine callsIn_of_wp Try.func46 rfl h46 ?_ hro
  simp only [Try.ntmps46, List.size_toArray, List.length_cons, List.length_nil, Nat.reduceAdd, Nat.reduceSub, Array.replicate_succ, Array.replicate_zero, List.push_toArray, List.append_toArray, List.nil_append, List.cons_append]
  gi_wp2
  gi_loopw [9] (fun i wr => ∃ k : Nat, k ≤ L ∧ i = .int .i64 k ∧ J (takenUpto gs us k) wr ∧ Kept n₀ Bs W wr)
    (fun i _ => L - (intOf i).toNat)
  case atStart => exact ⟨0, Nat.zero_le _, rfl, h0, Kept.refl _ _ _⟩
  case round =>
    obtain ⟨k, hk, rfl, hJs, hnx⟩ := hrel
    by_cases hlt : k < L
    · have hltu : k < us.length := by omega
      have hltg : k < gs.length := by omega
      obtain ⟨b, off, rfl, hb, hc⟩ := (HU.out.below hnx.1) k hltu
      have d0 := (World.cell?_of_block (a := ⟨Bs, 0, none⟩) (w := W) hnx.2).trans HB0.out
      have d1 := (World.cell?_of_block (a := ⟨Bs, 1, none⟩) (w := W) hnx.2).trans hB1
      have d2 := (World.cell?_of_block (a := ⟨Bs, 2, none⟩) (w := W) hnx.2).trans HB2.out
      have hIr := HI.out.below hnx.1
      have hnr : n₀ ≤ wr.heap.size := Nat.le_trans hn₀ hnx.1.size
      have hBr : Bs < wr.heap.size := blt d0
      have hT : takenUpto gs us (k + 1) = takenUpto gs us k ++ (if us[k] = true then [((k : Int), gs[k])] else []) := by
        simp [takenUpto, hltu, hltg]
      have htl := takenUpto_length_le gs us k
      generalize takenUpto gs us k = pre at *
      have Hnx := Lib.hid hnx
      have HIr := Lib.hid hIr
      clear hnx hIr
      cases hu : us[k] with
      | false =>
        rw [hu] at hc hT
        simp only [Bool.false_eq_true, if_false, List.append_nil] at hT
        have HT := Lib.hid hT
        clear hT hu
        gi_wp2_with fail
        refine ⟨fun _ hf => (by cases hf), ?_⟩
        gi_wp2
        go_roundw
        case rel => exact ⟨k + 1, by omega, by simp, by rw [HT.out]; exact hJs, Hnx.out⟩
        case measure => simp [intOf]; omega
      | true =>
        rw [hu] at hc hT
        simp only [if_true] at hT
        have hpf := takenUpto_prefix gs us (show k + 1 ≤ us.length by omega)
        have HT := Lib.hid hT
        have HP := Lib.hid hpf
        have Hh := Lib.hid (fun wq hq hz => handle_in F (n - 1) h40 hro a1 (.slice (some ⟨b, off, none⟩) L c2) s3 c1 L n₀ gs hL k hltg wq hq hz)
        clear hT hu hpf
        gi_wp2_with fail
        refine ⟨fun _ => by omega, (Hh.out _ hnr HIr.out).mono ?_⟩
        rintro e w3 ⟨rfl, hb3⟩
        have hJ3 := hJ pre wr w3 none hJs (grown_of_below hb3) (by simp)
        obtain ⟨fn, tmps, assign, body, hy, hR⟩ := hY pre ((k : Int), gs[k]) w3 hJ3 (by omega)
        have Hk := Lib.hid (kept_t Hnx.out (kept_below hb3 hnr hBr))
        simp only [handV] at hy
        generalize gs[k] = g at *
        gi_wp2
        refine ⟨fun _ => by omega, hR.mono ?_⟩
        rintro e W3 (⟨rfl, hJ3, hk3⟩ | ⟨rfl, hJx3⟩)
        · gi_wp2
          go_roundw
          case rel => exact ⟨k + 1, by omega, by simp, by rw [HT.out]; exact hJ3, kept_t Hk.out hk3⟩
          case measure => simp [intOf]; omega
        · gi_wp2
          refine bodyPost_ret (results_none rfl _ _ _) rfl ?_
          exact ⟨⟨_, rfl⟩, .inr ⟨_, by rw [← HT.out]; exact HP.out, hJx3⟩⟩
    · obtain rfl : k = L := by omega
      gi_wp2
      go_end0
      exact ⟨⟨_, rfl⟩, .inl ⟨_, by unfold takenOf; rw [hlu], hJs⟩⟩
end Go.Proofs.Ytbalebnhjpjhgaa.L9

/- hasFree: what it says. -/
namespace Go.Proofs.Ytbalebnhjpjhgaa.L9
open Go.RowKit Go.Shelf
attribute [local go_sem] Oper.semAt_some

/-- The map of what was met. -/
def metD (l : List Int) : DataW Unit := l.foldl (fun D x => D.put (.int .i64 x) (.lit (.bool true))) (.map [])
theorem metD_snoc (l : List Int) (x : Int) : metD (l ++ [x]) = (metD l).put (.int .i64 x) (.lit (.bool true)) := by simp [metD]
theorem metD_map (l : List Int) : metD l = Maps.setOf (.lit (.bool true)) (l.map fun x => Lit.int .i64 x) := by unfold metD Maps.setOf; rw [List.foldl_map]
theorem keys_ok (l : List Int) : ∀ x ∈ l.map (fun x => Lit.int .i64 x), WideAt.IsKeyLit x := by
  intro x hx
  obtain ⟨y, _, rfl⟩ := List.mem_map.1 hx
  trivial
theorem metD_has (l : List Int) (x : Int) : Maps.has (metD l) (.int .i64 x) = decide (x ∈ l) := by
  rw [metD_map, Maps.has_setOf _ _ _ (keys_ok l), List.any_map]
  rw [Bool.eq_iff_iff]
  simp [Lit.sameKey]
theorem metD_size_snoc (l : List Int) (x : Int) : Maps.size (metD (l ++ [x])) = if x ∈ l then Maps.size (metD l) else Maps.size (metD l) + 1 := by
  rw [metD_snoc, Maps.size_put (by rw [metD_map]; exact Maps.tidy_setOf _ _ (keys_ok l)), metD_has]
  simp
theorem snoc_ind {α : Type} {p : List α → Prop} (h0 : p []) (h1 : ∀ l x, p l → p (l ++ [x])) (l : List α) : p l := by
  have h : ∀ r : List α, p r.reverse := fun r => by
    induction r with
    | nil => exact h0
    | cons x r ih => rw [List.reverse_cons]; exact h1 _ _ ih
  have := h l.reverse
  rwa [List.reverse_reverse] at this
theorem metD_size_le (l : List Int) : Maps.size (metD l) ≤ l.length := by
  refine snoc_ind (p := fun l => Maps.size (metD l) ≤ l.length) ?_ ?_ l
  · simp [metD, Maps.size]
  · intro l x ih
    rw [metD_size_snoc, List.length_append]; split <;> simp <;> omega
theorem metD_size_eq (l : List Int) : Maps.size (metD l) = l.length ↔ l.Nodup := by
  refine snoc_ind (p := fun l => Maps.size (metD l) = l.length ↔ l.Nodup) ?_ ?_ l
  · simp [metD, Maps.size]
  · intro l x ih
    have := metD_size_le l
    rw [metD_size_snoc, List.length_append, List.nodup_append]
    by_cases h : x ∈ l
    · simp only [h, if_true, List.length_singleton]
      constructor
      · intro e; omega
      · rintro ⟨_, _, h3⟩; exact absurd rfl (h3 x h x (by simp))
    · simp only [h, if_false, List.length_singleton]
      constructor
      · intro e
        refine ⟨ih.1 (by omega), by simp, ?_⟩
        rintro a ha b hb rfl
        simp at hb; subst hb; exact h ha
      · rintro ⟨h1, _, _⟩
        have := ih.2 h1
        omega

/-- A place that may stand in Free. -/
def isFree (us : List Bool) (x : Int) : Prop := 0 ≤ x ∧ x < us.length ∧ us[x.toNat]?.getD true = false
instance (us : List Bool) (x : Int) : Decidable (isFree us x) := by unfold isFree; infer_instance
/-- What hasFree says. -/
def freeB (gs : List Int) (us : List Bool) (fs : List Int) : Bool := decide ((∀ x ∈ fs, isFree us x) ∧ fs.Nodup ∧ fs.length + (takenOf gs us).length = us.length)
end Go.Proofs.Ytbalebnhjpjhgaa.L9

/- hasFree: its contract. -/
namespace Go.Proofs.Ytbalebnhjpjhgaa.L9
open Go.RowKit Go.Shelf
attribute [local go_sem] Oper.semAt_some

section
variable {F : Fence} {n : Nat} {P : Program} {b : Frame} {a : Act} {k : List Item} {cs : List Frame} {w : World} {Q : Exit → Act → World → Prop}

theorem stepR_scope {c : Code} : step P (lone (b.atR a (.code (.scope c) :: k)) cs w) = .next (lone (b.atR a (.code c :: .inScope c :: k)) cs w) :=
  step_lone_go (by simp [stepG, stepG.exec, Frame.atR])
theorem stepR_inScope {c : Code} : step P (lone (b.atR a (.inScope c :: k)) cs w) = .next (lone (b.atR a k) cs w) :=
  step_lone_go (by simp [stepG, stepG.exec, Frame.atR])

/-- A scope through which the run goes without a goto, inside a fence. -/
theorem wpIn_scope_straight {c : Code} (h : c.wpIn F n P (Exit.noGoto Q) a w) : (Code.scope c).wpIn F n P Q a w := by
  intro b k cs hro hb hr
  have h0 : (lone (b.atR a (.code (.scope c) :: k)) cs w).fenced P F := fenced_calm hb hr rfl
  obtain ⟨e, a₁, w₁, hq, harr⟩ := h b (.inScope c :: k) cs hro hb hr
  cases e with
  | normal => exact ⟨.normal, a₁, w₁, hq, .head h0 stepR_scope (StepsIn.trans harr (.one (fenced_calm hb hr rfl) stepR_inScope))⟩
  | exit id =>
    have hx : exitTo id (.inScope c :: k) = exitTo id k := by simp [exitTo]
    exact ⟨.exit id, a₁, w₁, hq, fun k' hk => .head h0 stepR_scope (harr.1 k' (by rw [hx]; exact hk)),
      fun hr' hk => let ⟨k₁, h1, h2⟩ := harr.2 hr' (by rw [hx]; exact hk); ⟨k₁, h1, .head h0 stepR_scope h2⟩⟩
  | goto l => exact hq.elim
  | ret => exact ⟨_, a₁, w₁, hq, .of_steps (.one h0 stepR_scope) harr⟩
  | panic ch => exact ⟨_, a₁, w₁, hq, .of_steps (.one h0 stepR_scope) harr⟩
  | outgrown => exact ⟨_, a₁, w₁, hq, .of_steps (.one h0 stepR_scope) harr⟩
end


theorem taken_stops (F : Fence) (n : Nat) (h46 : F.fn 46) (h40 : F.fn 40) (hro : F.round = none) (hn : 2 ≤ n) (Bs n₀ : Nat) (a1 a2 : Option Addr) (s3 : Value) (c1 c2 : Nat) (gs : List Int) (us : List Bool) (hlu : us.length = gs.length) (hlen : gs.length ≤ 1000) (w : World) (hn₀ : n₀ ≤ w.heap.size)
    (hB0 : w.cell? ⟨Bs, 0, none⟩ = some (.slice a1 gs.length c1)) (hB1 : w.cell? ⟨Bs, 1, none⟩ = some (.slice a2 us.length c2)) (hB2 : w.cell? ⟨Bs, 2, none⟩ = some s3) (hI : IntsAt n₀ w a1 gs) (hU : BoolsAt n₀ w a2 us) :
    SeqStopsK F n Try.prog 46 #[.pointer (some ⟨Bs, 0, none⟩)] (fun x : Int × Int => #[handV x]) (Kept n₀ Bs) (fun ys => ys = takenOf gs us) (fun pre => pre <+: takenOf gs us) us.length w := fun l J Jx W hW hJ _ hY h0 =>
  taken1_in F n h46 h40 hro hn l Bs n₀ a1 a2 s3 c1 c2 gs us hlu hlen J Jx W.heap.size hJ hY W (Nat.le_trans hn₀ hW.size) ((hW.cell (p := ⟨Bs, 0, none⟩) (blt hB0)).trans hB0) ((hW.cell (p := ⟨Bs, 1, none⟩) (blt hB1)).trans hB1) ((hW.cell (p := ⟨Bs, 2, none⟩) (blt hB2)).trans hB2) (hI.below (hW.mono hn₀)) (hU.below (hW.mono hn₀)) h0

/-- What holds while places are met. -/
structure Met1 (B : Nat) (w : World) (s1 s2 s3 : Value) (us : List Bool) (pre : List Int) (W : World) : Prop where
  t0 : W.cell? ⟨B, 0, none⟩ = some s1
  t1 : W.cell? ⟨B, 1, none⟩ = some s2
  t2 : W.cell? ⟨B, 2, none⟩ = some s3
  m : W.cell? ⟨B + 2, 0, none⟩ = some (.map (some (B + 1)))
  o : W.ownsMap Try.prog 3 (plainElem (H := Unit) Try.prog 4) (B + 1) pre.length (metD pre)
  f : ∀ x ∈ pre, isFree us x
  b : Below B w W
theorem ownFrom_met1 {B B' : Nat} {w : World} {s1 s2 s3 : Value} {us : List Bool} (hB : B + 3 ≤ B') : OwnFrom B' (Met1 B w s1 s2 s3 us) := fun _ _ _ _ h hg hr =>
  ⟨cell_kept h.t0 hg (fun r e => (hr r e).2), cell_kept h.t1 hg (fun r e => (hr r e).2), cell_kept h.t2 hg (fun r e => (hr r e).2), cell_kept h.m hg (fun r e => (hr r e).2), h.o.kept hg (fun e => by have := (hr _ e.symm).1; omega), h.f,
    h.b.grown hg (by have := blt h.t0; omega) (fun j hj => by have := (hr j hj).1; omega)⟩
theorem ownFrom_out1 {B B' : Nat} {w : World} {s1 s2 s3 : Value} {us : List Bool} (c : Prop) (hB : B + 3 ≤ B') : OwnFrom B' (fun pre W => c ∧ ∃ q x, pre = q ++ [x] ∧ ¬ isFree us x ∧ Met1 B w s1 s2 s3 us q W) := fun _ _ _ _ ⟨h1, q, x, h2, h3, h4⟩ hg hr =>
  ⟨h1, q, x, h2, h3, ownFrom_met1 hB _ _ _ _ h4 hg hr⟩

theorem grownBy_setCell (W : World) (b o : Nat) (v : Value) : W.grownBy (W.setCell ⟨b, o, none⟩ v) (some b) :=
  ⟨rfl, rfl, rfl, by simp [World.setCell], fun i _ hne => Below.heap_setCell _ _ _ _ (fun e => hne (congrArg some e))⟩
theorem ownFrom_heap {β : Type} {B D : Nat} {o : Obj} (h : D < B) : OwnFrom B (fun (_ : β) W => W.heap[D]? = some o) := fun _ _ _ _ hs hg hr =>
  (hg.block D (Array.getElem?_eq_some_iff.1 hs).1 (fun e => by have := (hr D e.symm).1; omega)).trans hs
/-- What holds while the others are counted. -/
structure Cnt2 (B Z : Nat) (w : World) (s1 s2 s3 : Value) (mt : List Int) (pre : List (Int × Int)) (W : World) : Prop where
  t1 : W.cell? ⟨B, 1, none⟩ = some s2
  t2 : W.cell? ⟨B, 2, none⟩ = some s3
  m : W.cell? ⟨B + 2, 0, none⟩ = some (.map (some (B + 1)))
  o : W.ownsMap Try.prog 3 (plainElem (H := Unit) Try.prog 4) (B + 1) mt.length (metD mt)
  c : W.cell? ⟨Z, 0, none⟩ = some (.int .i64 pre.length)
  f : W.frozen? ⟨Z, 0, none⟩ = false
  b : Below B w W
theorem ownFrom_cnt2 {B Z B' : Nat} {w : World} {s1 s2 s3 : Value} {mt : List Int} (hB : B + 3 ≤ B') : OwnFrom B' (Cnt2 B Z w s1 s2 s3 mt) := fun _ _ _ _ h hg hr =>
  ⟨cell_kept h.t1 hg (fun r e => (hr r e).2), cell_kept h.t2 hg (fun r e => (hr r e).2), cell_kept h.m hg (fun r e => (hr r e).2), h.o.kept hg (fun e => by have := (hr _ e.symm).1; omega), cell_kept h.c hg (fun r e => (hr r e).2), (frozen_kept h.c hg (fun r e => (hr r e).2)).trans h.f,
    h.b.grown hg (by have := blt h.t1; omega) (fun j hj => by have := (hr j hj).1; omega)⟩

/-- How the first loop ends. -/
def Ended (us : List Bool) (fs q : List Int) : Prop := (q = fs ∧ ∀ x ∈ fs, isFree us x) ∨ (q.length < fs.length ∧ ¬ ∀ x ∈ fs, isFree us x)
theorem ended_free {gs : List Int} {us : List Bool} {fs q : List Int} (h : Ended us fs q) (c : Nat) (hc : c = (takenOf gs us).length) :
    freeB gs us fs = (decide (Maps.size (metD q) = fs.length) && decide (Maps.size (metD q) + c = us.length)) := by
  unfold freeB
  rcases h with ⟨rfl, h⟩ | ⟨hl, h⟩
  · rw [Bool.eq_iff_iff]
    simp only [decide_eq_true_eq, Bool.and_eq_true]
    constructor
    · rintro ⟨_, h2, h3⟩
      have := (metD_size_eq q).2 h2
      exact ⟨this, by omega⟩
    · rintro ⟨h2, h3⟩
      exact ⟨h, (metD_size_eq q).1 h2, by omega⟩
  · have := metD_size_le q
    rw [decide_eq_false (fun x => h x.1), decide_eq_false (by omega)]
    rfl

set_option maxRecDepth 100000 in
set_option maxHeartbeats 2000000 in
theorem hasFree_in (F : Fence) (n : Nat) (h30 : F.fn 30) (h38 : F.fn 38) (h40 : F.fn 40) (h44 : F.fn 44) (h46 : F.fn 46) (h49 : F.fn 49) (hro : F.round = none) (hn : 5 ≤ n) (a1 a2 a3 : Option Addr) (c1 c2 c3 : Nat) (gs : List Int) (us : List Bool) (fs : List Int)
    (hlu : us.length = gs.length) (hlf : fs.length ≤ gs.length) (hlen : gs.length ≤ 1000) (w : World) (hI : IntsAt w.heap.size w a1 gs) (hU : BoolsAt w.heap.size w a2 us) (hF : IntsAt w.heap.size w a3 fs) :
    CallsIn F n Try.prog 30 #[tabV a1 a2 a3 c1 c2 c3 gs us fs] w fun e w' => e = .returned (.bool (freeB gs us fs)) ∧ Below w.heap.size w w' := by
  have h1 : 1 ≤ n := by omega
  have hmm := @run_makeMap Try.prog
  unfold tabV
  have hS2 := taken_stops F (n - 1) h46 h40 hro (by omega)
  have hS1 := values_stops F (n - 1) h49 hro (by omega)
  have HI := Lib.hid hI
  have HU := Lib.hid hU
  have HF := Lib.hid hF
  have HS1 := Lib.hid hS1
  have HS2 := Lib.hid hS2
  clear hI hU hF hS1 hS2
  generalize hL : gs.length = L at *
  generalize hM : fs.length = M at *
  rw [hlu]
  refine callsIn_of_wp_marks Try.func30 rfl h30 ?_ hro
  simp only [Try.ntmps30, List.size_toArray, List.length_cons, List.length_nil, Nat.reduceAdd, Nat.reduceSub, Array.replicate_succ, Array.replicate_zero, List.push_toArray, List.append_toArray, List.nil_append, List.cons_append]
  gi_wp2
  refine wpIn_scope_straight ?_
  gi_wp2
  refine wpIn_label ?_
  gi_wp2_with (gi_at_call 44; refine (values_in F (n - 1) h44 hro _ _ _ _).mono ?_; rintro e w' ⟨rfl, rfl⟩)
  rename_i K hK
  generalize hB : w.heap.size = B at *
  have hz3 : (((w.alloc (Obj.cells #[Value.slice a1 L c1, Value.slice a2 L c2, Value.slice a3 M c3] 47)).alloc (Obj.map #[] 0)).alloc (Obj.cells #[Value.map (some (B + 1))] 60)).heap.size = B + 1 + 1 + 1 := by simp [hB]
  have bW : Below B w ((((w.alloc (Obj.cells #[Value.slice a1 L c1, Value.slice a2 L c2, Value.slice a3 M c3] 47)).alloc (Obj.map #[] 0)).alloc (Obj.cells #[Value.map (some (B + 1))] 60)).alloc (Obj.cells #[Value.slice a3 M c3] 22)) :=
    ((((Below.refl B w).alloc (by omega) _).alloc (by simp; omega) _).alloc (by simp; omega) _).alloc (by simp; omega) _
  have hm0 := World.ownsMap_made (w.alloc (Obj.cells #[Value.slice a1 L c1, Value.slice a2 L c2, Value.slice a3 M c3] 47)) Try.prog 3 (plainElem (H := Unit) Try.prog 4)
  rw [World.size_alloc, hB] at hm0
  have hm1 := ((hm0.alloc (Obj.cells #[Value.map (some (B + 1))] 60)).alloc (Obj.cells #[Value.slice a3 M c3] 22))
  have t0 : ((((w.alloc (Obj.cells #[Value.slice a1 L c1, Value.slice a2 L c2, Value.slice a3 M c3] 47)).alloc (Obj.map #[] 0)).alloc (Obj.cells #[Value.map (some (B + 1))] 60)).alloc (Obj.cells #[Value.slice a3 M c3] 22)).cell? ⟨B, 0, none⟩ = some (.slice a1 L c1) := by subst hB; go_simp
  have t1 : ((((w.alloc (Obj.cells #[Value.slice a1 L c1, Value.slice a2 L c2, Value.slice a3 M c3] 47)).alloc (Obj.map #[] 0)).alloc (Obj.cells #[Value.map (some (B + 1))] 60)).alloc (Obj.cells #[Value.slice a3 M c3] 22)).cell? ⟨B, 1, none⟩ = some (.slice a2 L c2) := by subst hB; go_simp
  have t2 : ((((w.alloc (Obj.cells #[Value.slice a1 L c1, Value.slice a2 L c2, Value.slice a3 M c3] 47)).alloc (Obj.map #[] 0)).alloc (Obj.cells #[Value.map (some (B + 1))] 60)).alloc (Obj.cells #[Value.slice a3 M c3] 22)).cell? ⟨B, 2, none⟩ = some (.slice a3 M c3) := by subst hB; go_simp
  have tm : ((((w.alloc (Obj.cells #[Value.slice a1 L c1, Value.slice a2 L c2, Value.slice a3 M c3] 47)).alloc (Obj.map #[] 0)).alloc (Obj.cells #[Value.map (some (B + 1))] 60)).alloc (Obj.cells #[Value.slice a3 M c3] 22)).cell? ⟨B + 2, 0, none⟩ = some (.map (some (B + 1))) := by subst hB; go_simp
  have tv : ((((w.alloc (Obj.cells #[Value.slice a1 L c1, Value.slice a2 L c2, Value.slice a3 M c3] 47)).alloc (Obj.map #[] 0)).alloc (Obj.cells #[Value.map (some (B + 1))] 60)).alloc (Obj.cells #[Value.slice a3 M c3] 22)).cell? ⟨B + 1 + 1 + 1, 0, none⟩ = some (.slice a3 M c3) := by subst hB; go_simp
  have hzV : ((((w.alloc (Obj.cells #[Value.slice a1 L c1, Value.slice a2 L c2, Value.slice a3 M c3] 47)).alloc (Obj.map #[] 0)).alloc (Obj.cells #[Value.map (some (B + 1))] 60)).alloc (Obj.cells #[Value.slice a3 M c3] 22)).heap.size = B + 4 := by simp [hB]
  generalize ((((w.alloc (Obj.cells #[Value.slice a1 L c1, Value.slice a2 L c2, Value.slice a3 M c3] 47)).alloc (Obj.map #[] 0)).alloc (Obj.cells #[Value.map (some (B + 1))] 60)).alloc (Obj.cells #[Value.slice a3 M c3] 22)) = V at *
  suffices hk : ∀ D q W, B + 4 ≤ D → W.heap[D]? = some (.deferred (some [])) → Ended us fs q → Met1 B w (.slice a1 L c1) (.slice a2 L c2) (.slice a3 M c3) us q W →
      K { tmps := #[.agg #[.slice a1 L c1, .slice a2 L c2, .slice a3 M c3], .pointer (some ⟨B, 0, none⟩), .bool false, .pointer (some ⟨B + 1 + 1, 0, none⟩), undef, undef, .map (some (B + 1)), .pointer (some ⟨B, 0, none⟩), .pointer (some ⟨B, 2, none⟩), .slice a3 M c3,
        .func (.func 49) #[] #[.pointer (some ⟨B + 1 + 1 + 1, 0, none⟩)], undef, undef, undef, undef, undef, undef, undef, undef, undef, undef, undef, undef, undef, undef, undef, undef, undef, undef, undef, undef, undef, undef, undef, undef, undef, undef, undef, undef, undef, undef, undef, undef, undef, undef, undef, undef, undef, undef, undef, undef, undef, undef, undef, undef], defers := [{ target := .collected D, args := #[] }] } W by
    refine wpIn_rangeFunc_ownG hro h1 (gf := 49) (lb := #[.pointer (some ⟨B + 1 + 1 + 1, 0, none⟩)]) rfl h49 (enters_of Try.func49 (by kernel_rfl) rfl)
      (HS1.out (B + 1 + 1 + 1) B a3 c3 fs (by omega) V (by omega) (by rw [hM]; exact tv) (HF.out.below bW)) belowK_t (belowK_b (by omega)) (Below.refl _ _) (fun _ => rfl)
      (Met1 B w (.slice a1 L c1) (.slice a2 L c2) (.slice a3 M c3) us) (fun c pre W => c = .exit 0 ∧ ∃ q x, pre = q ++ [x] ∧ ¬ isFree us x ∧ Met1 B w (.slice a1 L c1) (.slice a2 L c2) (.slice a3 M c3) us q W)
      (ownFrom_met1 (by omega)) (fun c => ownFrom_out1 (c = .exit 0) (by omega)) ⟨t0, t1, t2, tm, hm1, by simp, bW⟩
      (fun x => { tmps := #[.agg #[.slice a1 L c1, .slice a2 L c2, .slice a3 M c3], .pointer (some ⟨B, 0, none⟩), .bool false, .pointer (some ⟨B + 1 + 1, 0, none⟩), .int .i64 x, undef, .map (some (B + 1)), .pointer (some ⟨B, 0, none⟩), .pointer (some ⟨B, 2, none⟩), .slice a3 M c3,
        .func (.func 49) #[] #[.pointer (some ⟨B + 1 + 1 + 1, 0, none⟩)], .int .i64 x, undef, undef, undef, undef, undef, undef, undef, undef, undef, undef, undef, undef, undef, undef, undef, undef, undef, undef, undef, undef, undef, undef, undef, undef, undef, undef, undef, undef, undef, undef, undef, undef, undef, undef, undef, undef, undef, undef, undef, undef, undef, undef, undef], defers := [] }) ?assign ?body ?done ?stop
    case assign =>
      intro l x W K' hK'
      gi_wp2
      exact hK'
    case body =>
      rintro l pre x W g hlt
      have kt0 := g.t0
      have kt1 := g.t1
      have kt2 := g.t2
      have km := g.m
      have ko := g.o
      have kb := g.b
      have kf := g.f
      clear t0 t1 t2 tm tv hm0 hm1 hz3 bW hk
      by_cases hx0 : x < 0
      · have hno : ¬ isFree us x := fun h => by have := h.1; omega
        have G := Lib.hid g
        have HNo := Lib.hid hno
        clear hno g
        gi_wp2
        exact ⟨KeepsFrom.refl _ _, rfl, pre, x, rfl, HNo.out, G.out⟩
      · by_cases hx1 : x < L
        · obtain ⟨k, rfl⟩ : ∃ k : Nat, x = k := ⟨x.toNat, by omega⟩
          have hkL : k < L := by omega
          obtain ⟨b, off, rfl, hb, hc⟩ := (HU.out.below kb) k (by omega)
          have hget : us[k]?.getD true = us[k] := by simp [hlu, hkL]
          cases hu : us[k] with
          | true =>
            have hno : ¬ isFree us (k : Int) := fun h => by have := h.2.2; simp [hkL, hlu, hu] at this
            have G := Lib.hid g
            have HNo := Lib.hid hno
            rw [hu] at hc
            clear hno g hget hu
            gi_wp2
            exact ⟨KeepsFrom.refl _ _, rfl, pre, k, rfl, HNo.out, G.out⟩
          | false =>
            have hyes : isFree us (k : Int) := ⟨by omega, by omega, by simp [hkL, hlu, hu]⟩
            have hwf : (Lit.int .i64 (k : Int)).wf = true := WalkArith.wf_i64 (by omega)
            have Hy := Lib.hid hyes
            have Hw := Lib.hid hwf
            have KF := Lib.hid kf
            have KB := Lib.hid kb
            rw [hu] at hc
            clear hyes hwf kf g hget hu kb
            gi_wp2_with (gi_at_mapUpdate; refine wpListIn_mapUpdate_own _ rfl _ _ _ 60 rfl 3 4 (Maps.int_keyed Try.underlying3) Try.underlying60 _ (B + 1) pre.length _ rfl ko (by unfold maxLen; omega) _ _ _ rfl rfl (Maps.keyOf_int_mk Try.underlying3 Hw.out) _ [] (plainElem_bool Try.underlying4 true) ?_; intro w1 hown1 hgrow1)
            have hzW : B ≤ W.heap.size := by have := KB.out.size; omega
            have hkeep : ∀ r, some (B + 1) = some r → ∃ o : Obj, W.heap[r]? = some o ∧ o.isCells = false := fun r e => by
              cases e
              obtain ⟨es, ck, hh, _⟩ := ko
              exact ⟨_, hh, rfl⟩
            refine ⟨KeepsFrom.of_grownBy hgrow1 (fun j e => by cases e; omega), (Below.refl _ W).grown hgrow1 hzW (fun k e => by cases e; omega), ⟨cell_kept kt0 hgrow1 hkeep, cell_kept kt1 hgrow1 hkeep, cell_kept kt2 hgrow1 hkeep, cell_kept km hgrow1 hkeep, ?_, ?_, ?_⟩⟩
            · rw [metD_snoc, List.length_append]; exact hown1
            · intro y hy
              rcases List.mem_append.1 hy with h | h
              · exact KF.out y h
              · simp at h; subst h; exact Hy.out
            · exact KB.out.grown hgrow1 hzW (fun j e => by cases e; omega)
        · have hno : ¬ isFree us x := fun h => by have := h.2.1; omega
          have G := Lib.hid g
          have HNo := Lib.hid hno
          clear hno g
          gi_wp2
          exact ⟨KeepsFrom.refl _ _, rfl, pre, x, rfl, HNo.out, G.out⟩
    case done =>
      rintro D ys W hD rfl g hdef
      exact hk D ys W (by omega) hdef (.inl ⟨rfl, g.f⟩) g
    case stop =>
      rintro D c pre W hD ⟨r, hpre⟩ ⟨rfl, q, x, rfl, hx, g⟩ hdef
      have hend : Ended us fs q := .inr ⟨by rw [← hpre]; simp, fun h => hx (h x (by rw [← hpre]; simp))⟩
      have := hk D q W (by omega) hdef hend g
      gi_wp2
      exact this
  intro D q W hD hdef hend g
  refine hK _ _ ?_
  have kt0 := g.t0
  have kt1 := g.t1
  have kt2 := g.t2
  have km := g.m
  have ko := g.o
  have kb := g.b
  have HE := Lib.hid hend
  have hz2 : B + 1 + 1 < W.heap.size := blt km
  have hz1 : B + 1 < W.heap.size := by omega
  have hz0 : B < W.heap.size := by omega
  clear g hend t0 t1 t2 tm tv hm0 hm1 hz3 bW hzV
  gi_wp2_with (gi_at_call 38; refine (taken_in F (n - 1) h38 hro _ _ _ _).mono ?_; rintro e w' ⟨rfl, rfl⟩)
  rename_i K2 hK2
  have hn1 : n - 1 - 1 + 1 = n - 1 := by omega
  have e1 : ((W.alloc (Obj.cells #[Value.int IntKind.i64 0] 3)).alloc (Obj.cells #[Value.slice a1 L c1, Value.slice a2 L c2, Value.slice a3 M c3] 47)).cell? ⟨B, 1, none⟩ = some (.slice a2 L c2) := keep_alloc _ (keep_alloc _ kt1)
  have e2 : ((W.alloc (Obj.cells #[Value.int IntKind.i64 0] 3)).alloc (Obj.cells #[Value.slice a1 L c1, Value.slice a2 L c2, Value.slice a3 M c3] 47)).cell? ⟨B, 2, none⟩ = some (.slice a3 M c3) := keep_alloc _ (keep_alloc _ kt2)
  have em : ((W.alloc (Obj.cells #[Value.int IntKind.i64 0] 3)).alloc (Obj.cells #[Value.slice a1 L c1, Value.slice a2 L c2, Value.slice a3 M c3] 47)).cell? ⟨B + 2, 0, none⟩ = some (.map (some (B + 1))) := keep_alloc _ (keep_alloc _ km)
  have eo := (ko.alloc (Obj.cells #[Value.int IntKind.i64 0] 3)).alloc (Obj.cells #[Value.slice a1 L c1, Value.slice a2 L c2, Value.slice a3 M c3] 47)
  have ec : ((W.alloc (Obj.cells #[Value.int IntKind.i64 0] 3)).alloc (Obj.cells #[Value.slice a1 L c1, Value.slice a2 L c2, Value.slice a3 M c3] 47)).cell? ⟨W.heap.size, 0, none⟩ = some (.int .i64 0) := by go_simp
  have ef : ((W.alloc (Obj.cells #[Value.int IntKind.i64 0] 3)).alloc (Obj.cells #[Value.slice a1 L c1, Value.slice a2 L c2, Value.slice a3 M c3] 47)).frozen? ⟨W.heap.size, 0, none⟩ = false := by go_simp
  have x0 : ((W.alloc (Obj.cells #[Value.int IntKind.i64 0] 3)).alloc (Obj.cells #[Value.slice a1 L c1, Value.slice a2 L c2, Value.slice a3 M c3] 47)).cell? ⟨W.heap.size + 1, 0, none⟩ = some (.slice a1 L c1) := by go_simp
  have x1 : ((W.alloc (Obj.cells #[Value.int IntKind.i64 0] 3)).alloc (Obj.cells #[Value.slice a1 L c1, Value.slice a2 L c2, Value.slice a3 M c3] 47)).cell? ⟨W.heap.size + 1, 1, none⟩ = some (.slice a2 L c2) := by go_simp
  have x2 : ((W.alloc (Obj.cells #[Value.int IntKind.i64 0] 3)).alloc (Obj.cells #[Value.slice a1 L c1, Value.slice a2 L c2, Value.slice a3 M c3] 47)).cell? ⟨W.heap.size + 1, 2, none⟩ = some (.slice a3 M c3) := by go_simp
  have eb : Below B w ((W.alloc (Obj.cells #[Value.int IntKind.i64 0] 3)).alloc (Obj.cells #[Value.slice a1 L c1, Value.slice a2 L c2, Value.slice a3 M c3] 47)) := (kb.alloc (by omega) _).alloc (by simp; omega) _
  have ed : ((W.alloc (Obj.cells #[Value.int IntKind.i64 0] 3)).alloc (Obj.cells #[Value.slice a1 L c1, Value.slice a2 L c2, Value.slice a3 M c3] 47)).heap[D]? = some (.deferred (some [])) := by
    have hD' : D < W.heap.size := (Array.getElem?_eq_some_iff.1 hdef).1
    exact (Below.heap_alloc _ _ _ (by simp; omega)).trans ((Below.heap_alloc _ _ _ hD').trans hdef)
  have ez : ((W.alloc (Obj.cells #[Value.int IntKind.i64 0] 3)).alloc (Obj.cells #[Value.slice a1 L c1, Value.slice a2 L c2, Value.slice a3 M c3] 47)).heap.size = W.heap.size + 2 := by simp
  generalize hZ : W.heap.size = Z at *
  have hDZ : D < Z := by rw [← hZ]; exact (Array.getElem?_eq_some_iff.1 hdef).1
  generalize ((W.alloc (Obj.cells #[Value.int IntKind.i64 0] 3)).alloc (Obj.cells #[Value.slice a1 L c1, Value.slice a2 L c2, Value.slice a3 M c3] 47)) = U at *
  clear kt0 kt1 kt2 km ko kb hdef
  refine wpIn_rangeFunc_ownG hro h1 (gf := 46) (lb := #[.pointer (some ⟨Z + 1, 0, none⟩)]) rfl h46 (enters_of Try.func46 (by kernel_rfl) rfl)
    (HS2.out (Z + 1) B a1 a2 (.slice a3 M c3) c1 c2 gs us (by omega) (by omega) U (by omega) (by rw [hL]; exact x0) (by rw [hlu]; exact x1) x2 (HI.out.below eb) (HU.out.below eb)) kept_t (kept_b (by omega) (by omega)) (Below.refl _ _) (fun _ => rfl)
    (fun pre W => Cnt2 B Z w (.slice a1 L c1) (.slice a2 L c2) (.slice a3 M c3) q pre W ∧ W.heap[D]? = some (.deferred (some []))) (fun _ _ _ => False)
    (OwnFrom.and (ownFrom_cnt2 (by omega)) (ownFrom_heap (by omega))) (fun _ _ _ _ _ hs _ _ => hs) ⟨⟨e1, e2, em, eo, ec, ef, eb⟩, ed⟩
    (fun x => { tmps := #[.agg #[.slice a1 L c1, .slice a2 L c2, .slice a3 M c3], .pointer (some ⟨B, 0, none⟩), .bool false, .pointer (some ⟨B + 1 + 1, 0, none⟩), undef, .pointer (some ⟨Z, 0, none⟩), .map (some (B + 1)), .pointer (some ⟨B, 0, none⟩), .pointer (some ⟨B, 2, none⟩), .slice a3 M c3,
        .func (.func 49) #[] #[.pointer (some ⟨B + 1 + 1 + 1, 0, none⟩)], undef, undef, undef, undef, undef, undef, undef, undef, undef, undef, undef, undef, undef, undef, undef, undef, undef, undef, undef, undef, undef, .agg #[.slice a1 L c1, .slice a2 L c2, .slice a3 M c3], .func (.func 46) #[] #[.pointer (some ⟨Z + 1, 0, none⟩)], handV x, undef, undef, undef, undef, undef, undef, undef, undef, undef, undef, undef, undef, undef, undef, undef, undef, undef, undef, undef, undef], defers := [] }) ?assign ?body ?done ?stop
  case assign =>
    intro l x W K' hK'
    gi_wp2
    exact hK'
  case body =>
    rintro l pre x W ⟨g, hd⟩ hlt
    have kc := g.c
    have kf := g.f
    have kb := g.b
    have hpl : (pre.length : Int) ≤ 1000 := by omega
    have G := Lib.hid g
    have HD := Lib.hid hd
    have KB := Lib.hid kb
    clear g hd kb
    gi_wp2
    have hne : Z + 1 ≠ Z := by omega
    have hz : B ≤ Z := by omega
    refine ⟨(KeepsOthers.setCell _ _ _).from _, ⟨(Below.refl B W).setCell (p := ⟨Z, 0, none⟩) hz _, Below.heap_setCell _ _ _ _ hne⟩, ⟨(set_other _ _ (by omega)).trans G.out.t1, (set_other _ _ (by omega)).trans G.out.t2, (set_other _ _ (by omega)).trans G.out.m, ?_, ?_, ?_, KB.out.setCell (p := ⟨Z, 0, none⟩) hz _⟩, ?_⟩
    · exact G.out.o.kept (grownBy_setCell _ _ _ _) (fun e => by cases e; omega)
    · rw [List.length_append]; exact World.cell?_setCell_same' _ _ _ (by rw [kc]; rfl)
    · exact (World.frozen?_setCell ..).trans kf
    · exact (Below.heap_setCell _ _ _ _ (show D ≠ Z by omega)).trans HD.out
  case done =>
    rintro D2 ys W hD2 rfl ⟨g, hd⟩ hdef2
    have kt1 := g.t1
    have kt2 := g.t2
    have km := g.m
    have ko := g.o
    have kc := g.c
    have kb := g.b
    have hl := fun ty => ko.len Try.underlying60 ty
    clear g e1 e2 em eo ec ef x0 x1 x2 eb ed
    generalize hS : Maps.size (metD q) = S at *
    have HS := Lib.hid hS
    have hmeq := ended_free HE.out (gs := gs) (takenOf gs us).length rfl
    rw [hS, hM, hlu] at hmeq
    have htl := takenUpto_length_le gs us us.length
    have htl' : (takenOf gs us).length ≤ L := by unfold takenOf; omega
    have hsl := ko.size_le
    have hql : q.length ≤ M := by rcases HE.out with ⟨rfl, _⟩ | ⟨h, _⟩ <;> omega
    generalize hT : (takenOf gs us).length = T at *
    have HQ := Lib.hid hmeq
    have s1 : IntKind.i64.wrap ((S : Int) + (T : Int)) = (S : Int) + (T : Int) := IntWalk.i64_in _ (by omega)
    have hD' : D ≠ D2 := by omega
    have hd' : (W.putObj D2 (.deferred none)).heap[D]? = some (.deferred (some [])) := (World.putObj_heap_other (by omega)).trans hd
    have hfin : Below B w ((W.putObj D2 (.deferred none)).putObj D (.deferred none)) :=
      (kb.trans (belowK_b (w := w) (by omega) W D2 _ _ (by omega) hdef2 rfl rfl)).trans (belowK_b (w := w) (by omega) (W.putObj D2 (.deferred none)) D _ _ (by omega) hd' rfl rfl)
    clear hmeq htl hT hS
    by_cases hSM : S = M
    · subst hSM
      gi_wp2
      all_goals
        refine ⟨by simp, .inl ⟨_, _, rfl, run_takeDeferred hdef2, by simp, .inl ⟨_, _, rfl, run_takeDeferred hd', ?_⟩⟩⟩
        refine ⟨.bool ((S : Int) + (T : Int) == (L : Int)), by simp [results, Try.f30, go_sem], ret_bool ?_, by rw [hB]; exact hfin⟩
        rw [HQ.out, Bool.eq_iff_iff]
        simp only [beq_iff_eq, decide_eq_true_eq, Bool.and_eq_true, true_and]
        omega
    · have hSM' : ¬ ((S : Int) = (M : Int)) := by omega
      gi_wp2
      all_goals
        refine ⟨by simp, .inl ⟨_, _, rfl, run_takeDeferred hdef2, by simp, .inl ⟨_, _, rfl, run_takeDeferred hd', ?_⟩⟩⟩
        refine ⟨.bool false, by simp [results, Try.f30, go_sem], ret_bool (by rw [HQ.out, decide_eq_false hSM]; rfl), by rw [hB]; exact hfin⟩
  case stop =>
    rintro D2 c pre W _ _ h _
    exact h.elim
end Go.Proofs.Ytbalebnhjpjhgaa.L9

/- hasSizes, hasGens, check.All, Right. -/
namespace Go.Proofs.Ytbalebnhjpjhgaa.L9
open Go.RowKit

def sz (L M K : Nat) : Bool := decide (1 ≤ L ∧ L ≤ 64 ∧ M = L ∧ K ≤ L)
def sizesB (gs : List Int) (us : List Bool) (fs : List Int) : Bool := sz gs.length us.length fs.length
theorem sz_no {L M K : Nat} (h : ¬ (1 ≤ L ∧ L ≤ 64 ∧ M = L ∧ K ≤ L)) : sz L M K = false := decide_eq_false h
theorem sz_yes {L M K : Nat} (h : 1 ≤ L ∧ L ≤ 64 ∧ M = L ∧ K ≤ L) : sz L M K = true := decide_eq_true h
def gensB (gs : List Int) : Bool := decide (∀ g ∈ gs, 0 ≤ g ∧ g ≤ 1000000000)
/-- What Right says. -/
def rightB (gs : List Int) (us : List Bool) (fs : List Int) : Bool := sizesB gs us fs && gensB gs && freeB gs us fs

set_option maxRecDepth 100000 in
set_option maxHeartbeats 1000000 in
theorem sizes_any (a1 a2 a3 : Option Addr) (c1 c2 c3 : Nat) (gs : List Int) (us : List Bool) (fs : List Int) (w : World) :
    Calls Try.prog 28 #[tabV a1 a2 a3 c1 c2 c3 gs us fs] w fun e w' => e = .returned (.bool (sizesB gs us fs)) ∧ Below w.heap.size w w' := by
  unfold tabV sizesB
  generalize gs.length = L
  generalize us.length = M
  generalize fs.length = K
  by_cases h1 : (L : Int) < 1
  · go_enter Try.func28, Try.ntmps28
    go_wp2
    go_ret
    exact ⟨ret_bool (sz_no (by omega)).symm, (Below.refl _ _).alloc (Nat.le_refl _) _⟩
  have g1 : (1 : Int) ≤ (L : Int) := by omega
  by_cases h2 : (L : Int) ≤ 64
  rotate_left
  · go_enter Try.func28, Try.ntmps28
    go_wp2
    go_ret
    exact ⟨ret_bool (sz_no (by omega)).symm, (Below.refl _ _).alloc (Nat.le_refl _) _⟩
  by_cases h3 : M = L
  rotate_left
  · have h3' : ¬ ((M : Int) = (L : Int)) := by omega
    go_enter Try.func28, Try.ntmps28
    go_wp2
    go_ret
    exact ⟨ret_bool (sz_no (by omega)).symm, (Below.refl _ _).alloc (Nat.le_refl _) _⟩
  subst h3
  by_cases h4 : (K : Int) ≤ (M : Int)
  · go_enter Try.func28, Try.ntmps28
    go_wp2
    go_ret
    exact ⟨ret_bool (sz_yes (by omega)).symm, (Below.refl _ _).alloc (Nat.le_refl _) _⟩
  · go_enter Try.func28, Try.ntmps28
    go_wp2
    go_ret
    exact ⟨ret_bool (sz_no (by omega)).symm, (Below.refl _ _).alloc (Nat.le_refl _) _⟩

set_option maxRecDepth 100000 in
set_option maxHeartbeats 1000000 in
theorem gens_any (a1 : Option Addr) (s2 s3 : Value) (c1 len : Nat) (gs : List Int) (hg : gs.length = len) (hlen : len ≤ 64) (hl1 : 1 ≤ len) (w : World) (hI : IntsAt w.heap.size w a1 gs) :
    Calls Try.prog 29 #[.agg #[.slice a1 len c1, s2, s3]] w fun e w' => e = .returned (.bool (gensB gs)) ∧ Below w.heap.size w w' := by
  match gs, hg, hI with
  | [], hg, _ => simp at hg; omega
  | x :: l, hg, hI =>
    have hmin := fun w' (hb : Below w.heap.size w w') => min_any a1 x l c1 w.heap.size w' (by omega) (hI.below hb)
    have hmax := fun w' (hb : Below w.heap.size w w') => max_any a1 x l c1 w.heap.size w' (by omega) (hI.below hb)
    rw [hg] at hmin hmax
    have hA : Below w.heap.size w (w.alloc (.cells #[.slice a1 len c1, s2, s3] 47)) := (Below.refl _ _).alloc (Nat.le_refl _) _
    have Hmin := Lib.hid (hmin _ hA)
    have Hmax := Lib.hid (hmax _ hA)
    have e1 := leastOf_ge 0 x l
    have e2 := mostOf_le 1000000000 x l
    have E : gensB (x :: l) = (decide (0 ≤ leastOf x l) && decide (mostOf x l ≤ 1000000000)) := by
      unfold gensB
      rw [Bool.eq_iff_iff]
      simp only [decide_eq_true_eq, Bool.and_eq_true, e1, e2, List.mem_cons, forall_eq_or_imp]
      constructor
      · rintro ⟨⟨h1, h2⟩, h3⟩; exact ⟨⟨h1, fun y hy => (h3 y hy).1⟩, h2, fun y hy => (h3 y hy).2⟩
      · rintro ⟨⟨h1, h2⟩, h3, h4⟩; exact ⟨⟨h1, h3⟩, fun y hy => ⟨h2 y hy, h4 y hy⟩⟩
    rw [E]
    clear hmin hmax hI e1 e2 E
    generalize leastOf x l = m at *
    generalize mostOf x l = q at *
    by_cases hm : 0 ≤ m
    · go_enter Try.func29, Try.ntmps29
      go_wp2_with (first | (go_at_call 42; refine Hmin.out.mono ?_; rintro e w' ⟨rfl, rfl⟩) | (go_at_call 43; refine Hmax.out.mono ?_; rintro e w' ⟨rfl, rfl⟩))
      go_ret
      exact ⟨ret_bool (by rw [decide_eq_true hm, Bool.true_and]), hA⟩
    · have hm' : m < 0 := by omega
      go_enter Try.func29, Try.ntmps29
      go_wp2_with (first | (go_at_call 42; refine Hmin.out.mono ?_; rintro e w' ⟨rfl, rfl⟩) | (go_at_call 43; refine Hmax.out.mono ?_; rintro e w' ⟨rfl, rfl⟩))
      go_ret
      exact ⟨ret_bool (by rw [decide_eq_false (by omega : ¬ 0 ≤ m), Bool.false_and]), hA⟩
end Go.Proofs.Ytbalebnhjpjhgaa.L9

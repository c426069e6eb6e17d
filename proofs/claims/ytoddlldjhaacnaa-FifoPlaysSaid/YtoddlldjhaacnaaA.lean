/- Queues in memory: what a call may turn; turner, put, drop. -/
import Derived.Test.YtoddlldjhaacnaaChecked
import Derived.WalkKit
import Derived.WalkLawsBesides
import Derived.WalkSpells
import Derived.WalkSmall
import Derived.Outline
import Derived.Deep.DeepFit
import Derived.Lib.Hide
import Derived.BigQuiet
import Derived.Deep.QuietTactic
import Derived.Deep.RegionHeld3
import Derived.IntWalk
namespace Go.Proofs.Ytoddlldjhaacnaa
open Go.RowKit

theorem ret_bool {a b : Bool} (h : a = b) : Ending.returned (.bool a) = .returned (.bool b) := by rw [h]
theorem ret_int {k : IntKind} {a b : Int} (h : a = b) : Ending.returned (.int k a) = .returned (.int k b) := by rw [h]
theorem bcell {W w1 : World} (hb : Below W.heap.size W w1) : (∀ b o, b < W.heap.size → w1.cell? ⟨b, o, none⟩ = W.cell? ⟨b, o, none⟩) ∧ (∀ b o, b < W.heap.size → w1.frozen? ⟨b, o, none⟩ = W.frozen? ⟨b, o, none⟩) :=
  ⟨fun b o h => hb.cell (p := ⟨b, o, none⟩) h, fun b o h => hb.frozen (p := ⟨b, o, none⟩) h⟩
theorem blt {w : World} {b o : Nat} {v : Value} (h : w.cell? ⟨b, o, none⟩ = some v) : b < w.heap.size := World.block_lt_of_cell? w ⟨b, o, none⟩ h
theorem keep_alloc {W : World} {b o : Nat} {v : Value} (X : Obj) (h : W.cell? ⟨b, o, none⟩ = some v) : (W.alloc X).cell? ⟨b, o, none⟩ = some v :=
  (World.cell?_of_block (w := W) (Below.heap_alloc W X b (blt h))).trans h
theorem keep_alloc_f {W : World} {b o : Nat} {v : Value} {f : Bool} (X : Obj) (h : W.cell? ⟨b, o, none⟩ = some v) (hf : W.frozen? ⟨b, o, none⟩ = f) : (W.alloc X).frozen? ⟨b, o, none⟩ = f :=
  (World.frozen?_of_block (w := W) (Below.heap_alloc W X b (blt h))).trans hf
theorem set_other (W : World) (v : Value) {b bm o om : Nat} (hne : b ≠ bm) : (W.setCell ⟨bm, om, none⟩ v).cell? ⟨b, o, none⟩ = W.cell? ⟨b, o, none⟩ :=
  World.cell?_of_block (w := W) (Below.heap_setCell W ⟨bm, om, none⟩ v b hne)

theorem alloc_cell (W : World) (v : Value) (t : Nat) : (W.alloc (.cells #[v] t)).cell? ⟨W.heap.size, 0, none⟩ = some v := by go_simp

/-- But for the blocks F and K, all that was there is as it was. -/
structure Off (F K : Nat) (w w' : World) : Prop where
  os : w'.os = w.os
  tape : w'.tape = w.tape
  output : w'.output = w.output
  size : w.heap.size ≤ w'.heap.size
  block : ∀ i, i < w.heap.size → i ≠ F → i ≠ K → w'.heap[i]? = w.heap[i]?
theorem Off.refl (F K : Nat) (w : World) : Off F K w w := ⟨rfl, rfl, rfl, Nat.le_refl _, fun _ _ _ _ => rfl⟩
theorem Off.trans {F K : Nat} {a b c : World} (h : Off F K a b) (k : Off F K b c) : Off F K a c :=
  ⟨k.os.trans h.os, k.tape.trans h.tape, k.output.trans h.output, Nat.le_trans h.size k.size, fun i hi h1 h2 => (k.block i (Nat.lt_of_lt_of_le hi h.size) h1 h2).trans (h.block i hi h1 h2)⟩
theorem Off.drew {F K : Nat} {a w : World} (h : Off F K a w) : Off F K a w.drew := ⟨h.os, h.tape, h.output, h.size, h.block⟩
theorem Off.drewN {F K : Nat} {a w : World} (h : Off F K a w) (n : Nat) : Off F K a (w.drewN n) := h.trans ⟨rfl, rfl, rfl, Nat.le_refl _, fun _ _ _ _ => rfl⟩
theorem Off.alloc {F K : Nat} {a w : World} (h : Off F K a w) (o : Obj) : Off F K a (w.alloc o) :=
  h.trans ⟨rfl, rfl, rfl, by simp, fun i hi _ _ => Below.heap_alloc _ _ _ hi⟩
theorem Off.setF {F K : Nat} {a w : World} (h : Off F K a w) (o : Nat) (v : Value) : Off F K a (w.setCell ⟨F, o, none⟩ v) :=
  h.trans ⟨rfl, rfl, rfl, by simp [World.setCell], fun i _ h1 _ => Below.heap_setCell _ _ _ _ h1⟩
theorem Off.setK {F K : Nat} {a w : World} (h : Off F K a w) (o : Nat) (v : Value) : Off F K a (w.setCell ⟨K, o, none⟩ v) :=
  h.trans ⟨rfl, rfl, rfl, by simp [World.setCell], fun i _ _ h2 => Below.heap_setCell _ _ _ _ h2⟩
theorem Off.of_below {F K : Nat} {a w : World} (h : Below a.heap.size a w) : Off F K a w := ⟨h.os, h.tape, h.output, h.size, fun i hi _ _ => h.block i hi⟩
theorem Off.below {F K n : Nat} {a w : World} (h : Off F K a w) (hn : n ≤ a.heap.size) (hF : n ≤ F) (hK : n ≤ K) : Below n a w :=
  ⟨h.os, h.tape, h.output, h.size, fun i hi => h.block i (by omega) (by omega) (by omega)⟩
theorem Off.cell {F K : Nat} {a w : World} (h : Off F K a w) {b o : Nat} (hb : b < a.heap.size) (h1 : b ≠ F) (h2 : b ≠ K) : w.cell? ⟨b, o, none⟩ = a.cell? ⟨b, o, none⟩ := World.cell?_of_block (w := a) (h.block b hb h1 h2)
theorem Off.frozen {F K : Nat} {a w : World} (h : Off F K a w) {b o : Nat} (hb : b < a.heap.size) (h1 : b ≠ F) (h2 : b ≠ K) : w.frozen? ⟨b, o, none⟩ = a.frozen? ⟨b, o, none⟩ := World.frozen?_of_block (w := a) (h.block b hb h1 h2)

/-- A queue: its struct in block F, its cells in block K: capacity, first place, how many, all cells. -/
structure IsQ (w : World) (F K cap first cnt : Nat) (cs : List Int) : Prop where
  c0 : w.cell? ⟨F, 0, none⟩ = some (.slice (some ⟨K, 0, none⟩) cap cap)
  c1 : w.cell? ⟨F, 1, none⟩ = some (.int .i64 first)
  c2 : w.cell? ⟨F, 2, none⟩ = some (.int .i64 cnt)
  f1 : w.frozen? ⟨F, 1, none⟩ = false
  f2 : w.frozen? ⟨F, 2, none⟩ = false
  len : cs.length = cap
  k : ∀ j, j < cap → w.cell? ⟨K, j, none⟩ = some (.int .u8 (cs.getD j 0))
  fk : ∀ j, j < cap → w.frozen? ⟨K, j, none⟩ = false
  ne : F ≠ K
  first_lt : first < cap
  cnt_le : cnt ≤ cap
  cap_le : cap ≤ 4096
theorem IsQ.lt {w : World} {F K cap first cnt : Nat} {cs : List Int} (h : IsQ w F K cap first cnt cs) : F < w.heap.size ∧ K < w.heap.size := ⟨blt h.c0, blt (h.k 0 (by have := h.first_lt; omega))⟩
/-- A queue is where its two blocks are. -/
theorem IsQ.same {w w' : World} {F K cap first cnt : Nat} {cs : List Int} (h : IsQ w F K cap first cnt cs) (hF : w'.heap[F]? = w.heap[F]?) (hK : w'.heap[K]? = w.heap[K]?) : IsQ w' F K cap first cnt cs :=
  ⟨(World.cell?_of_block (w := w) hF).trans h.c0, (World.cell?_of_block (w := w) hF).trans h.c1, (World.cell?_of_block (w := w) hF).trans h.c2, (World.frozen?_of_block (w := w) hF).trans h.f1, (World.frozen?_of_block (w := w) hF).trans h.f2, h.len,
    fun j hj => (World.cell?_of_block (w := w) hK).trans (h.k j hj), fun j hj => (World.frozen?_of_block (w := w) hK).trans (h.fk j hj), h.ne, h.first_lt, h.cnt_le, h.cap_le⟩
theorem IsQ.drew {w : World} {F K cap first cnt : Nat} {cs : List Int} (h : IsQ w F K cap first cnt cs) : IsQ w.drew F K cap first cnt cs := h.same rfl rfl
theorem IsQ.drewN {w : World} {F K cap first cnt : Nat} {cs : List Int} (h : IsQ w F K cap first cnt cs) (n : Nat) : IsQ (w.drewN n) F K cap first cnt cs := h.same rfl rfl
theorem IsQ.below {w w' : World} {n F K cap first cnt : Nat} {cs : List Int} (h : IsQ w F K cap first cnt cs) (hb : Below n w w') (hF : F < n) (hK : K < n) : IsQ w' F K cap first cnt cs := h.same (hb.block F hF) (hb.block K hK)

/-- A cell of the queue is written. -/
theorem IsQ.setK {w : World} {F K cap first cnt : Nat} {cs : List Int} (h : IsQ w F K cap first cnt cs) {i : Nat} (hi : i < cap) (b : Int) : IsQ (w.setCell ⟨K, i, none⟩ (.int .u8 b)) F K cap first cnt (cs.set i b) where
  c0 := (set_other _ _ h.ne).trans h.c0
  c1 := (set_other _ _ h.ne).trans h.c1
  c2 := (set_other _ _ h.ne).trans h.c2
  f1 := (World.frozen?_setCell ..).trans h.f1
  f2 := (World.frozen?_setCell ..).trans h.f2
  len := by rw [List.length_set]; exact h.len
  k j hj := by
    by_cases e : i = j
    · subst e
      rw [World.cell?_setCell_same' _ _ _ (by rw [h.k _ hi]; rfl)]
      simp [List.getD_eq_getElem?_getD, h.len, hi]
    · rw [World.cell?_setCell_other _ _ _ _ (fun x => e (congrArg Addr.off x)), h.k j hj]
      simp [List.getD_eq_getElem?_getD, e]
  fk j hj := (World.frozen?_setCell ..).trans (h.fk j hj)
  ne := h.ne
  first_lt := h.first_lt
  cnt_le := h.cnt_le
  cap_le := h.cap_le
/-- How many there are is written. -/
theorem IsQ.setCnt {w : World} {F K cap first cnt : Nat} {cs : List Int} (h : IsQ w F K cap first cnt cs) {n : Nat} (hn : n ≤ cap) : IsQ (w.setCell ⟨F, 2, none⟩ (.int .i64 n)) F K cap first n cs where
  c0 := (World.cell?_setCell_other _ _ _ _ (by intro x; cases x)).trans h.c0
  c1 := (World.cell?_setCell_other _ _ _ _ (by intro x; cases x)).trans h.c1
  c2 := World.cell?_setCell_same' _ _ _ (by rw [h.c2]; rfl)
  f1 := (World.frozen?_setCell ..).trans h.f1
  f2 := (World.frozen?_setCell ..).trans h.f2
  len := h.len
  k j hj := (set_other _ _ h.ne.symm).trans (h.k j hj)
  fk j hj := (World.frozen?_setCell ..).trans (h.fk j hj)
  ne := h.ne
  first_lt := h.first_lt
  cnt_le := hn
  cap_le := h.cap_le
/-- The first place is written. -/
theorem IsQ.setFirst {w : World} {F K cap first cnt : Nat} {cs : List Int} (h : IsQ w F K cap first cnt cs) {n : Nat} (hn : n < cap) : IsQ (w.setCell ⟨F, 1, none⟩ (.int .i64 n)) F K cap n cnt cs where
  c0 := (World.cell?_setCell_other _ _ _ _ (by intro x; cases x)).trans h.c0
  c1 := World.cell?_setCell_same' _ _ _ (by rw [h.c1]; rfl)
  c2 := (World.cell?_setCell_other _ _ _ _ (by intro x; cases x)).trans h.c2
  f1 := (World.frozen?_setCell ..).trans h.f1
  f2 := (World.frozen?_setCell ..).trans h.f2
  len := h.len
  k j hj := (set_other _ _ h.ne.symm).trans (h.k j hj)
  fk j hj := (World.frozen?_setCell ..).trans (h.fk j hj)
  ne := h.ne
  first_lt := hn
  cnt_le := h.cnt_le
  cap_le := h.cap_le

set_option maxHeartbeats 400000 in
theorem turner_any (n : Int) (w : World) :
    Calls Try.prog 30 #[.int .i64 n] w fun e w' => e = .returned (.func (.func 32) #[] #[.pointer (some ⟨w.heap.size, 0, none⟩)]) ∧ w' = w.alloc (.cells #[.int .i64 n] 3) := by
  go_enter Try.func30, Try.ntmps30
  go_wp2
  go_ret
  exact ⟨rfl, rfl⟩

set_option maxHeartbeats 400000 in
theorem turn_any (c b n T : Nat) (w : World) (hc : c ≤ 1000000) (hb : b ≤ 1000000) (hn : n ≤ 1000000) (hn0 : 0 < n) (hT : w.cell? ⟨T, 0, none⟩ = some (.int .i64 n)) :
    Calls Try.prog 32 #[.int .i64 c, .int .i64 b, .pointer (some ⟨T, 0, none⟩)] w fun e w' => e = .returned (.int .i64 (((c + b) % n : Nat) : Int)) ∧ w = w' := by
  have h1 : (c : Int) ≤ 1000000 := by omega
  have h2 : (b : Int) ≤ 1000000 := by omega
  have h3 : (n : Int) ≤ 1000000 := by omega
  have h4 : (0 : Int) < (n : Int) := by omega
  have h5 : ((n : Int) == 0) = false := by simp; omega
  go_enter Try.func32, Try.ntmps32
  go_wp2
  go_ret
  exact ⟨ret_int (by rw [Int.natCast_emod, Int.natCast_add]), rfl⟩
end Go.Proofs.Ytoddlldjhaacnaa

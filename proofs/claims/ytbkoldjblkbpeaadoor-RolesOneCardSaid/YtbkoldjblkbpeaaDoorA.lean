/- roles: helpers; allowed, have, Index, Contains, Word, cut: their contracts. -/
import Derived.Test.YtbkoldjblkbpeaaDoorChecked
import Derived.WalkKit
import Derived.WalkLawsBesides
import Derived.WalkSpells
import Derived.WalkSmall
import Derived.Outline
import Derived.Deep.DeepFit
import Derived.Lib.Hide
import Derived.BigQuiet
import Derived.Deep.QuietTactic
import Derived.Sort.QuietIn
import Derived.Deep.RegionHeld3
import Derived.IntWalk
import Derived.Laws.StructEq
import Derived.Maps.RangeWalk
import Derived.RangeFuncNested
import Derived.RangeFuncBound
import Derived.RangeFuncCalls
import Derived.RangeFuncLeaves
import Derived.RangeFuncBox
import Derived.Shelf.Abstract
import Derived.Shelf.RegionOpen
import Derived.OwnWalkIn
import Derived.TacticsInMore
import Derived.LoopNIn
import Derived.LoopIn
import Derived.Lib.OthersKept
import Derived.Maps.OwnIn
import Derived.Maps.Views
import Derived.Sort.MapsRangeIn
import Derived.Sort.CutIn
namespace Go.Proofs.YtbkoldjblkbpeaaDoor
open Go.RowKit

theorem ret_bool {a b : Bool} (h : a = b) : Ending.returned (.bool a) = .returned (.bool b) := by rw [h]
theorem bcell {W w1 : World} (hb : Below W.heap.size W w1) : (∀ b o, b < W.heap.size → w1.cell? ⟨b, o, none⟩ = W.cell? ⟨b, o, none⟩) ∧ (∀ b o, b < W.heap.size → w1.frozen? ⟨b, o, none⟩ = W.frozen? ⟨b, o, none⟩) :=
  ⟨fun b o h => hb.cell (p := ⟨b, o, none⟩) h, fun b o h => hb.frozen (p := ⟨b, o, none⟩) h⟩
theorem blt {w : World} {b o : Nat} {v : Value} (h : w.cell? ⟨b, o, none⟩ = some v) : b < w.heap.size := World.block_lt_of_cell? w ⟨b, o, none⟩ h
theorem keep_alloc {W : World} {b o : Nat} {v : Value} (X : Obj) (h : W.cell? ⟨b, o, none⟩ = some v) : (W.alloc X).cell? ⟨b, o, none⟩ = some v :=
  (World.cell?_of_block (w := W) (Below.heap_alloc W X b (blt h))).trans h
theorem set_other (W : World) (v : Value) {b bm o om : Nat} (hne : b ≠ bm) : (W.setCell ⟨bm, om, none⟩ v).cell? ⟨b, o, none⟩ = W.cell? ⟨b, o, none⟩ :=
  World.cell?_of_block (w := W) (Below.heap_setCell W ⟨bm, om, none⟩ v b hne)
theorem below_drewN {m : Nat} {a w : World} (h : Below m a w) (n : Nat) : Below m a (w.drewN n) := h.trans ⟨rfl, rfl, rfl, Nat.le_refl _, fun _ _ => rfl⟩
theorem below_drew {m : Nat} {a w : World} (h : Below m a w) : Below m a w.drew := h.trans ⟨rfl, rfl, rfl, Nat.le_refl _, fun _ _ => rfl⟩
theorem below_alloc (w : World) (o : Obj) : Below w.heap.size w (w.alloc o) := (Below.refl _ w).alloc (Nat.le_refl _) o
theorem bal {a W : World} (h : Below a.heap.size a W) (o : Obj) : Below a.heap.size a (W.alloc o) := h.alloc h.size o
theorem btr {a W W' : World} (h : Below a.heap.size a W) (k : Below W.heap.size W W') : Below a.heap.size a W' := h.trans (k.mono h.size)

/-- The verbs' words. -/
def wordL : List (List UInt8) := [[99, 114, 101, 97, 116, 101], [115, 117, 115, 112, 101, 110, 100], [114, 101, 115, 117, 109, 101], [100, 114, 97, 105, 110], [100, 101, 108, 101, 116, 101], [114, 111, 116, 97, 116, 101], [97, 99, 108], [107, 105, 108, 108], [108, 105, 115, 116], [115, 104, 111, 119]]
def wordB (i : Nat) : ByteArray := ⟨(wordL.getD i []).toArray⟩
/-- The table of words lies as the program's text lays it. -/
def Wd (w : World) : Prop := ∀ i, i < 10 → w.cell? ⟨1, i, none⟩ = some (.string (wordB i))
theorem Wd.on {a w : World} (h : Wd a) (b : Below a.heap.size a w) : Wd w := fun i hi => (b.cell (p := ⟨1, i, none⟩) (blt (h i hi))).trans (h i hi)

/-- What a role may, a bit each. -/
def maskR (r : Int) : Int := if r = 3 then 2046 else if r = 2 then 1820 else if r = 1 then 1536 else 0
def mayL (r : Int) : List (Fin 10) := if r = 3 then [0, 1, 2, 3, 4, 5, 6, 7, 8, 9] else if r = 2 then [1, 2, 3, 7, 8, 9] else if r = 1 then [8, 9] else []
def allV : List (Fin 10) := [0, 1, 2, 3, 4, 5, 6, 7, 8, 9]
def mayV (r : Int) (x : Fin 10) : Bool := decide (x ∈ mayL r)
theorem mayL_filter (r : Int) : allV.filter (mayV r) = mayL r := by
  unfold mayV mayL
  split
  · rfl
  · split
    · rfl
    · split
      · rfl
      · rfl
theorem roles4 (r : Int) : r = 3 ∨ r = 2 ∨ r = 1 ∨ (r ≠ 3 ∧ r ≠ 2 ∧ r ≠ 1) := by omega

theorem allowed_c (r : Int) (w : World) : Calls Tryd.prog 28 #[.int .i64 r] w fun x w' => x = .returned (.int .i64 (maskR r)) ∧ w = w' := by
  rcases roles4 r with rfl | rfl | rfl | ⟨h1, h2, h3⟩
  · go_enter Tryd.func28, Tryd.ntmps28
    go_wp2
    go_ret
    exact ⟨rfl, rfl⟩
  · go_enter Tryd.func28, Tryd.ntmps28
    go_wp2
    go_ret
    exact ⟨rfl, rfl⟩
  · go_enter Tryd.func28, Tryd.ntmps28
    go_wp2
    go_ret
    exact ⟨rfl, rfl⟩
  · have e : maskR r = 0 := by unfold maskR; rw [if_neg h1, if_neg h2, if_neg h3]
    rw [e]
    clear e
    go_enter Tryd.func28, Tryd.ntmps28
    go_wp2
    go_ret
    exact ⟨rfl, rfl⟩

set_option maxHeartbeats 4000000 in
theorem have_at (m : Int) (v : Int) (b : Bool) (h : (m, v, b) ∈ [(2046, 1, true), (2046, 2, true), (2046, 3, true), (2046, 4, true), (2046, 5, true), (2046, 6, true), (2046, 7, true), (2046, 8, true), (2046, 9, true), (2046, 10, true), (1820, 1, false), (1820, 2, true), (1820, 3, true), (1820, 4, true), (1820, 5, false), (1820, 6, false), (1820, 7, false), (1820, 8, true), (1820, 9, true), (1820, 10, true), (1536, 1, false), (1536, 2, false), (1536, 3, false), (1536, 4, false), (1536, 5, false), (1536, 6, false), (1536, 7, false), (1536, 8, false), (1536, 9, true), (1536, 10, true), (0, 1, false), (0, 2, false), (0, 3, false), (0, 4, false), (0, 5, false), (0, 6, false), (0, 7, false), (0, 8, false), (0, 9, false), (0, 10, false)]) (w : World) : Calls Tryd.prog 29 #[.int .i64 m, .int .i64 v] w fun x w' => x = .returned (.bool b) ∧ w = w' := by
  simp only [List.mem_cons, List.not_mem_nil, or_false, Prod.mk.injEq] at h
  rcases h with ⟨rfl, rfl, rfl⟩ | ⟨rfl, rfl, rfl⟩ | ⟨rfl, rfl, rfl⟩ | ⟨rfl, rfl, rfl⟩ | ⟨rfl, rfl, rfl⟩ | ⟨rfl, rfl, rfl⟩ | ⟨rfl, rfl, rfl⟩ | ⟨rfl, rfl, rfl⟩ | ⟨rfl, rfl, rfl⟩ | ⟨rfl, rfl, rfl⟩ | ⟨rfl, rfl, rfl⟩ | ⟨rfl, rfl, rfl⟩ | ⟨rfl, rfl, rfl⟩ | ⟨rfl, rfl, rfl⟩ | ⟨rfl, rfl, rfl⟩ | ⟨rfl, rfl, rfl⟩ | ⟨rfl, rfl, rfl⟩ | ⟨rfl, rfl, rfl⟩ | ⟨rfl, rfl, rfl⟩ | ⟨rfl, rfl, rfl⟩ | ⟨rfl, rfl, rfl⟩ | ⟨rfl, rfl, rfl⟩ | ⟨rfl, rfl, rfl⟩ | ⟨rfl, rfl, rfl⟩ | ⟨rfl, rfl, rfl⟩ | ⟨rfl, rfl, rfl⟩ | ⟨rfl, rfl, rfl⟩ | ⟨rfl, rfl, rfl⟩ | ⟨rfl, rfl, rfl⟩ | ⟨rfl, rfl, rfl⟩ | ⟨rfl, rfl, rfl⟩ | ⟨rfl, rfl, rfl⟩ | ⟨rfl, rfl, rfl⟩ | ⟨rfl, rfl, rfl⟩ | ⟨rfl, rfl, rfl⟩ | ⟨rfl, rfl, rfl⟩ | ⟨rfl, rfl, rfl⟩ | ⟨rfl, rfl, rfl⟩ | ⟨rfl, rfl, rfl⟩ | ⟨rfl, rfl, rfl⟩
  all_goals
    go_enter Tryd.func29, Tryd.ntmps29
    go_wp2
    go_ret
    exact ⟨rfl, rfl⟩
theorem have_c (r : Int) (x : Fin 10) (w : World) : Calls Tryd.prog 29 #[.int .i64 (maskR r), .int .i64 ((x.val + 1 : Nat) : Int)] w fun y w' => y = .returned (.bool (mayV r x)) ∧ w = w' := by
  refine have_at _ _ _ ?_ w
  rcases roles4 r with rfl | rfl | rfl | ⟨h1, h2, h3⟩
  · revert x; decide
  · revert x; decide
  · revert x; decide
  · rw [show maskR r = 0 by unfold maskR; rw [if_neg h1, if_neg h2, if_neg h3], show mayV r x = false by unfold mayV mayL; rw [if_neg h1, if_neg h2, if_neg h3]; simp]
    revert x; decide
end Go.Proofs.YtbkoldjblkbpeaaDoor

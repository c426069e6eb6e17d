/- Fh, Fu, Eq, Ix, Cg, Ho, EW -/
import Derived.Test.YtikpmkidfppknaaGreatDoorZ6
import Derived.RegionTactic
import Derived.ChangeAlike
import Derived.BigRegion
import Derived.Test.YtikpmkidfppknaaGreatDoorZ5
import Derived.Test.YtikpmkidfppknaaGreatDoorZ0
import Derived.Stop.Asserts
set_option linter.unusedVariables false
set_option linter.unusedSimpArgs false
/- What becomes of one credential. -/
namespace Go.Proofs.YtikpmkidfppknaaGreatDoor
open Go.RowKit Go.Shelf
attribute [local go_sem] Oper.semAt_some

set_option maxRecDepth 100000 in
set_option maxHeartbeats 4000000 in
theorem ifHolding_c (a : Option Addr) (n c : Nat) (now : Int) (x : Crd) (w : World) : Calls Tryz.prog 41 #[.agg #[.slice a n c, .int .i64 now], .agg #[.int .i64 x.i, .string x.k, .int .i64 x.f, .int .i64 x.t]] w fun y w' => y = .returned (.tuple #[.agg #[.int .i64 x.i, .string x.k, .int .i64 x.f, .int .i64 x.t], .bool (holdB now x)]) ∧ Below w.heap.size w w' := by
  by_cases h1 : x.f ≤ now
  · have hd : decide (x.f ≤ now) = true := decide_eq_true h1
    by_cases h2 : now < x.t
    · have hd2 : decide (now < x.t) = true := decide_eq_true h2
      have HR := Lib.hid (show holdB now x = true by unfold holdB; rw [hd, hd2]; rfl)
      clear h1 h2
      go_enter Tryz.func41, Tryz.ntmps41
      go_wp2
      go_region
      go_wp2
      have e0 : (((w.alloc (.cells #[.slice a n c, .int .i64 now] 57)).alloc (.cells #[.int .i64 x.i, .string x.k, .int .i64 x.f, .int .i64 x.t] 37)).alloc (.cells #[.int .i64 x.i, .string x.k, .int .i64 x.f, .int .i64 x.t] 37)).drew.cell? ⟨w.heap.size + 1 + 1, 0, none⟩ = some ((.int .i64 x.i)) := by go_simp
      have e1 : (((w.alloc (.cells #[.slice a n c, .int .i64 now] 57)).alloc (.cells #[.int .i64 x.i, .string x.k, .int .i64 x.f, .int .i64 x.t] 37)).alloc (.cells #[.int .i64 x.i, .string x.k, .int .i64 x.f, .int .i64 x.t] 37)).drew.cell? ⟨w.heap.size + 1 + 1, 1, none⟩ = some ((.string x.k)) := by go_simp
      have e2 : (((w.alloc (.cells #[.slice a n c, .int .i64 now] 57)).alloc (.cells #[.int .i64 x.i, .string x.k, .int .i64 x.f, .int .i64 x.t] 37)).alloc (.cells #[.int .i64 x.i, .string x.k, .int .i64 x.f, .int .i64 x.t] 37)).drew.cell? ⟨w.heap.size + 1 + 1, 2, none⟩ = some ((.int .i64 x.f)) := by go_simp
      have e3 : (((w.alloc (.cells #[.slice a n c, .int .i64 now] 57)).alloc (.cells #[.int .i64 x.i, .string x.k, .int .i64 x.f, .int .i64 x.t] 37)).alloc (.cells #[.int .i64 x.i, .string x.k, .int .i64 x.f, .int .i64 x.t] 37)).drew.cell? ⟨w.heap.size + 1 + 1, 3, none⟩ = some ((.int .i64 x.t)) := by go_simp
      refine bodyPost_ret (results_cellt rfl _ _ (by rfl) (by rfl) (crd_load (x := x) e0 e1 e2 e3)) rfl ?_
      exact ⟨by rw [HR.out]; rfl, below_drew (bal (bal (below_alloc _ _) _) _)⟩
    · have hd2 : decide (now < x.t) = false := decide_eq_false h2
      have HR := Lib.hid (show holdB now x = false by unfold holdB; rw [hd, hd2]; rfl)
      clear h1 h2
      go_enter Tryz.func41, Tryz.ntmps41
      go_wp2
      go_region
      go_wp2
      have e0 : (((w.alloc (.cells #[.slice a n c, .int .i64 now] 57)).alloc (.cells #[.int .i64 x.i, .string x.k, .int .i64 x.f, .int .i64 x.t] 37)).alloc (.cells #[.int .i64 x.i, .string x.k, .int .i64 x.f, .int .i64 x.t] 37)).drew.cell? ⟨w.heap.size + 1 + 1, 0, none⟩ = some ((.int .i64 x.i)) := by go_simp
      have e1 : (((w.alloc (.cells #[.slice a n c, .int .i64 now] 57)).alloc (.cells #[.int .i64 x.i, .string x.k, .int .i64 x.f, .int .i64 x.t] 37)).alloc (.cells #[.int .i64 x.i, .string x.k, .int .i64 x.f, .int .i64 x.t] 37)).drew.cell? ⟨w.heap.size + 1 + 1, 1, none⟩ = some ((.string x.k)) := by go_simp
      have e2 : (((w.alloc (.cells #[.slice a n c, .int .i64 now] 57)).alloc (.cells #[.int .i64 x.i, .string x.k, .int .i64 x.f, .int .i64 x.t] 37)).alloc (.cells #[.int .i64 x.i, .string x.k, .int .i64 x.f, .int .i64 x.t] 37)).drew.cell? ⟨w.heap.size + 1 + 1, 2, none⟩ = some ((.int .i64 x.f)) := by go_simp
      have e3 : (((w.alloc (.cells #[.slice a n c, .int .i64 now] 57)).alloc (.cells #[.int .i64 x.i, .string x.k, .int .i64 x.f, .int .i64 x.t] 37)).alloc (.cells #[.int .i64 x.i, .string x.k, .int .i64 x.f, .int .i64 x.t] 37)).drew.cell? ⟨w.heap.size + 1 + 1, 3, none⟩ = some ((.int .i64 x.t)) := by go_simp
      refine bodyPost_ret (results_cellt rfl _ _ (by rfl) (by rfl) (crd_load (x := x) e0 e1 e2 e3)) rfl ?_
      exact ⟨by rw [HR.out]; rfl, below_drew (bal (bal (below_alloc _ _) _) _)⟩
  · have hd : decide (x.f ≤ now) = false := decide_eq_false h1
    have HR := Lib.hid (show holdB now x = false by unfold holdB; rw [hd]; rfl)
    clear h1
    go_enter Tryz.func41, Tryz.ntmps41
    go_wp2
    go_region
    go_wp2
    have e0 : (((w.alloc (.cells #[.slice a n c, .int .i64 now] 57)).alloc (.cells #[.int .i64 x.i, .string x.k, .int .i64 x.f, .int .i64 x.t] 37)).alloc (.cells #[.int .i64 x.i, .string x.k, .int .i64 x.f, .int .i64 x.t] 37)).drew.cell? ⟨w.heap.size + 1 + 1, 0, none⟩ = some ((.int .i64 x.i)) := by go_simp
    have e1 : (((w.alloc (.cells #[.slice a n c, .int .i64 now] 57)).alloc (.cells #[.int .i64 x.i, .string x.k, .int .i64 x.f, .int .i64 x.t] 37)).alloc (.cells #[.int .i64 x.i, .string x.k, .int .i64 x.f, .int .i64 x.t] 37)).drew.cell? ⟨w.heap.size + 1 + 1, 1, none⟩ = some ((.string x.k)) := by go_simp
    have e2 : (((w.alloc (.cells #[.slice a n c, .int .i64 now] 57)).alloc (.cells #[.int .i64 x.i, .string x.k, .int .i64 x.f, .int .i64 x.t] 37)).alloc (.cells #[.int .i64 x.i, .string x.k, .int .i64 x.f, .int .i64 x.t] 37)).drew.cell? ⟨w.heap.size + 1 + 1, 2, none⟩ = some ((.int .i64 x.f)) := by go_simp
    have e3 : (((w.alloc (.cells #[.slice a n c, .int .i64 now] 57)).alloc (.cells #[.int .i64 x.i, .string x.k, .int .i64 x.f, .int .i64 x.t] 37)).alloc (.cells #[.int .i64 x.i, .string x.k, .int .i64 x.f, .int .i64 x.t] 37)).drew.cell? ⟨w.heap.size + 1 + 1, 3, none⟩ = some ((.int .i64 x.t)) := by go_simp
    refine bodyPost_ret (results_cellt rfl _ _ (by rfl) (by rfl) (crd_load (x := x) e0 e1 e2 e3)) rfl ?_
    exact ⟨by rw [HR.out]; rfl, below_drew (bal (bal (below_alloc _ _) _) _)⟩
/-- Does one stay in a rotation, and how? -/
def rotS (now last : Int) (x : Crd) : Bool := decide (now < x.t) && decide (x.f < last)
def rotD (last : Int) (x : Crd) : Crd := ⟨x.i, x.k, x.f, min x.t last⟩
def endS (now id : Int) (x : Crd) : Bool := !decide (x.i = id) || decide (x.f < now)
def endD (now id : Int) (x : Crd) : Crd := if x.i = id then ⟨x.i, x.k, x.f, now⟩ else x
end Go.Proofs.YtikpmkidfppknaaGreatDoor

/- Rotations and ends of one credential. -/
namespace Go.Proofs.YtikpmkidfppknaaGreatDoor
open Go.RowKit Go.Shelf
attribute [local go_sem] Oper.semAt_some

set_option maxRecDepth 100000 in
set_option maxHeartbeats 4000000 in
theorem upTo1_c (bs bl : Nat) (now last : Int) (x : Crd) (w : World) (s1 : w.cell? ⟨bs, 1, none⟩ = some (.int .i64 now)) (l0 : w.cell? ⟨bl, 0, none⟩ = some (.int .i64 last)) :
    Calls Tryz.prog 57 #[.agg #[.int .i64 x.i, .string x.k, .int .i64 x.f, .int .i64 x.t], .pointer (some ⟨bs, 0, none⟩), .pointer (some ⟨bl, 0, none⟩)] w fun y w' => y = .returned (.tuple #[.agg #[.int .i64 (rotD last x).i, .string (rotD last x).k, .int .i64 (rotD last x).f, .int .i64 (rotD last x).t], .bool (rotS now last x)]) ∧ Below w.heap.size w w' := by
  obtain ⟨m, hm⟩ : ∃ m, min x.t last = m := ⟨_, rfl⟩
  unfold rotD
  rw [hm]
  have z1 := blt s1
  have z2 := blt l0
  by_cases h1 : now < x.t
  · have hd : decide (now < x.t) = true := decide_eq_true h1
    by_cases h2 : x.f < last
    · have hd2 : decide (x.f < last) = true := decide_eq_true h2
      have HR := Lib.hid (show rotS now last x = true by unfold rotS; rw [hd, hd2]; rfl)
      clear h1 h2
      go_enter Tryz.func57, Tryz.ntmps57
      go_wp2
      have e0 : ((w.alloc (.cells #[.int .i64 x.i, .string x.k, .int .i64 x.f, .int .i64 m] 37)).alloc (.cells #[.int .i64 x.i, .string x.k, .int .i64 x.f, .int .i64 m] 37)).cell? ⟨w.heap.size + 1, 0, none⟩ = some ((.int .i64 x.i)) := by go_simp
      have e1 : ((w.alloc (.cells #[.int .i64 x.i, .string x.k, .int .i64 x.f, .int .i64 m] 37)).alloc (.cells #[.int .i64 x.i, .string x.k, .int .i64 x.f, .int .i64 m] 37)).cell? ⟨w.heap.size + 1, 1, none⟩ = some ((.string x.k)) := by go_simp
      have e2 : ((w.alloc (.cells #[.int .i64 x.i, .string x.k, .int .i64 x.f, .int .i64 m] 37)).alloc (.cells #[.int .i64 x.i, .string x.k, .int .i64 x.f, .int .i64 m] 37)).cell? ⟨w.heap.size + 1, 2, none⟩ = some ((.int .i64 x.f)) := by go_simp
      have e3 : ((w.alloc (.cells #[.int .i64 x.i, .string x.k, .int .i64 x.f, .int .i64 m] 37)).alloc (.cells #[.int .i64 x.i, .string x.k, .int .i64 x.f, .int .i64 m] 37)).cell? ⟨w.heap.size + 1, 3, none⟩ = some ((.int .i64 m)) := by go_simp
      refine bodyPost_ret (results_cellt rfl _ _ (by rfl) (by rfl) (crd_load (x := ⟨x.i, x.k, x.f, m⟩) e0 e1 e2 e3)) rfl ?_
      exact ⟨by rw [HR.out]; rfl, bal (below_alloc _ _) _⟩
    · have hd2 : decide (x.f < last) = false := decide_eq_false h2
      have HR := Lib.hid (show rotS now last x = false by unfold rotS; rw [hd, hd2]; rfl)
      clear h1 h2
      go_enter Tryz.func57, Tryz.ntmps57
      go_wp2
      have e0 : ((w.alloc (.cells #[.int .i64 x.i, .string x.k, .int .i64 x.f, .int .i64 m] 37)).alloc (.cells #[.int .i64 x.i, .string x.k, .int .i64 x.f, .int .i64 m] 37)).cell? ⟨w.heap.size + 1, 0, none⟩ = some ((.int .i64 x.i)) := by go_simp
      have e1 : ((w.alloc (.cells #[.int .i64 x.i, .string x.k, .int .i64 x.f, .int .i64 m] 37)).alloc (.cells #[.int .i64 x.i, .string x.k, .int .i64 x.f, .int .i64 m] 37)).cell? ⟨w.heap.size + 1, 1, none⟩ = some ((.string x.k)) := by go_simp
      have e2 : ((w.alloc (.cells #[.int .i64 x.i, .string x.k, .int .i64 x.f, .int .i64 m] 37)).alloc (.cells #[.int .i64 x.i, .string x.k, .int .i64 x.f, .int .i64 m] 37)).cell? ⟨w.heap.size + 1, 2, none⟩ = some ((.int .i64 x.f)) := by go_simp
      have e3 : ((w.alloc (.cells #[.int .i64 x.i, .string x.k, .int .i64 x.f, .int .i64 m] 37)).alloc (.cells #[.int .i64 x.i, .string x.k, .int .i64 x.f, .int .i64 m] 37)).cell? ⟨w.heap.size + 1, 3, none⟩ = some ((.int .i64 m)) := by go_simp
      refine bodyPost_ret (results_cellt rfl _ _ (by rfl) (by rfl) (crd_load (x := ⟨x.i, x.k, x.f, m⟩) e0 e1 e2 e3)) rfl ?_
      exact ⟨by rw [HR.out]; rfl, bal (below_alloc _ _) _⟩
  · have hd : decide (now < x.t) = false := decide_eq_false h1
    have HR := Lib.hid (show rotS now last x = false by unfold rotS; rw [hd]; rfl)
    clear h1
    go_enter Tryz.func57, Tryz.ntmps57
    go_wp2
    have e0 : ((w.alloc (.cells #[.int .i64 x.i, .string x.k, .int .i64 x.f, .int .i64 m] 37)).alloc (.cells #[.int .i64 x.i, .string x.k, .int .i64 x.f, .int .i64 m] 37)).cell? ⟨w.heap.size + 1, 0, none⟩ = some ((.int .i64 x.i)) := by go_simp
    have e1 : ((w.alloc (.cells #[.int .i64 x.i, .string x.k, .int .i64 x.f, .int .i64 m] 37)).alloc (.cells #[.int .i64 x.i, .string x.k, .int .i64 x.f, .int .i64 m] 37)).cell? ⟨w.heap.size + 1, 1, none⟩ = some ((.string x.k)) := by go_simp
    have e2 : ((w.alloc (.cells #[.int .i64 x.i, .string x.k, .int .i64 x.f, .int .i64 m] 37)).alloc (.cells #[.int .i64 x.i, .string x.k, .int .i64 x.f, .int .i64 m] 37)).cell? ⟨w.heap.size + 1, 2, none⟩ = some ((.int .i64 x.f)) := by go_simp
    have e3 : ((w.alloc (.cells #[.int .i64 x.i, .string x.k, .int .i64 x.f, .int .i64 m] 37)).alloc (.cells #[.int .i64 x.i, .string x.k, .int .i64 x.f, .int .i64 m] 37)).cell? ⟨w.heap.size + 1, 3, none⟩ = some ((.int .i64 m)) := by go_simp
    refine bodyPost_ret (results_cellt rfl _ _ (by rfl) (by rfl) (crd_load (x := ⟨x.i, x.k, x.f, m⟩) e0 e1 e2 e3)) rfl ?_
    exact ⟨by rw [HR.out]; rfl, bal (below_alloc _ _) _⟩
set_option maxRecDepth 100000 in
set_option maxHeartbeats 4000000 in
theorem without1_c (bs bi : Nat) (now id : Int) (x : Crd) (w : World) (s1 : w.cell? ⟨bs, 1, none⟩ = some (.int .i64 now)) (l0 : w.cell? ⟨bi, 0, none⟩ = some (.int .i64 id)) :
    Calls Tryz.prog 61 #[.agg #[.int .i64 x.i, .string x.k, .int .i64 x.f, .int .i64 x.t], .pointer (some ⟨bi, 0, none⟩), .pointer (some ⟨bs, 0, none⟩)] w fun y w' => y = .returned (.tuple #[.agg #[.int .i64 (endD now id x).i, .string (endD now id x).k, .int .i64 (endD now id x).f, .int .i64 (endD now id x).t], .bool (endS now id x)]) ∧ Below w.heap.size w w' := by
  have z1 := blt s1
  have z2 := blt l0
  by_cases h1 : x.i = id
  · subst h1
    have hd : decide (x.i = x.i) = true := decide_eq_true rfl
    have he : endD now x.i x = ⟨x.i, x.k, x.f, now⟩ := if_pos rfl
    rw [he]
    by_cases h2 : x.f < now
    · have hd2 : decide (x.f < now) = true := decide_eq_true h2
      have HR := Lib.hid (show endS now x.i x = true by unfold endS; rw [hd, hd2]; rfl)
      clear he hd
      go_enter Tryz.func61, Tryz.ntmps61
      go_wp2
      go_region
      go_wp2
      have e0 : ((w.alloc (.cells #[.int .i64 x.i, .string x.k, .int .i64 x.f, .int .i64 now] 37)).alloc (.cells #[.int .i64 x.i, .string x.k, .int .i64 x.f, .int .i64 now] 37)).drew.cell? ⟨w.heap.size + 1, 0, none⟩ = some ((.int .i64 x.i)) := by go_simp
      have e1 : ((w.alloc (.cells #[.int .i64 x.i, .string x.k, .int .i64 x.f, .int .i64 now] 37)).alloc (.cells #[.int .i64 x.i, .string x.k, .int .i64 x.f, .int .i64 now] 37)).drew.cell? ⟨w.heap.size + 1, 1, none⟩ = some ((.string x.k)) := by go_simp
      have e2 : ((w.alloc (.cells #[.int .i64 x.i, .string x.k, .int .i64 x.f, .int .i64 now] 37)).alloc (.cells #[.int .i64 x.i, .string x.k, .int .i64 x.f, .int .i64 now] 37)).drew.cell? ⟨w.heap.size + 1, 2, none⟩ = some ((.int .i64 x.f)) := by go_simp
      have e3 : ((w.alloc (.cells #[.int .i64 x.i, .string x.k, .int .i64 x.f, .int .i64 now] 37)).alloc (.cells #[.int .i64 x.i, .string x.k, .int .i64 x.f, .int .i64 now] 37)).drew.cell? ⟨w.heap.size + 1, 3, none⟩ = some ((.int .i64 now)) := by go_simp
      refine bodyPost_ret (results_cellt rfl _ _ (by rfl) (by rfl) (crd_load (x := ⟨x.i, x.k, x.f, now⟩) e0 e1 e2 e3)) rfl ?_
      exact ⟨by rw [HR.out]; rfl, below_drew (bal (below_alloc _ _) _)⟩
    · have hd2 : decide (x.f < now) = false := decide_eq_false h2
      have HR := Lib.hid (show endS now x.i x = false by unfold endS; rw [hd, hd2]; rfl)
      clear he hd
      go_enter Tryz.func61, Tryz.ntmps61
      go_wp2
      go_region
      go_wp2
      have e0 : ((w.alloc (.cells #[.int .i64 x.i, .string x.k, .int .i64 x.f, .int .i64 now] 37)).alloc (.cells #[.int .i64 x.i, .string x.k, .int .i64 x.f, .int .i64 now] 37)).drew.cell? ⟨w.heap.size + 1, 0, none⟩ = some ((.int .i64 x.i)) := by go_simp
      have e1 : ((w.alloc (.cells #[.int .i64 x.i, .string x.k, .int .i64 x.f, .int .i64 now] 37)).alloc (.cells #[.int .i64 x.i, .string x.k, .int .i64 x.f, .int .i64 now] 37)).drew.cell? ⟨w.heap.size + 1, 1, none⟩ = some ((.string x.k)) := by go_simp
      have e2 : ((w.alloc (.cells #[.int .i64 x.i, .string x.k, .int .i64 x.f, .int .i64 now] 37)).alloc (.cells #[.int .i64 x.i, .string x.k, .int .i64 x.f, .int .i64 now] 37)).drew.cell? ⟨w.heap.size + 1, 2, none⟩ = some ((.int .i64 x.f)) := by go_simp
      have e3 : ((w.alloc (.cells #[.int .i64 x.i, .string x.k, .int .i64 x.f, .int .i64 now] 37)).alloc (.cells #[.int .i64 x.i, .string x.k, .int .i64 x.f, .int .i64 now] 37)).drew.cell? ⟨w.heap.size + 1, 3, none⟩ = some ((.int .i64 now)) := by go_simp
      refine bodyPost_ret (results_cellt rfl _ _ (by rfl) (by rfl) (crd_load (x := ⟨x.i, x.k, x.f, now⟩) e0 e1 e2 e3)) rfl ?_
      exact ⟨by rw [HR.out]; rfl, below_drew (bal (below_alloc _ _) _)⟩
  · have hd : decide (x.i = id) = false := decide_eq_false h1
    have he : endD now id x = x := if_neg h1
    rw [he]
    have HR := Lib.hid (show endS now id x = true by unfold endS; rw [hd]; rfl)
    clear he
    go_enter Tryz.func61, Tryz.ntmps61
    go_wp2
    have e0 : ((w.alloc (.cells #[.int .i64 x.i, .string x.k, .int .i64 x.f, .int .i64 x.t] 37)).alloc (.cells #[.int .i64 x.i, .string x.k, .int .i64 x.f, .int .i64 x.t] 37)).cell? ⟨w.heap.size + 1, 0, none⟩ = some ((.int .i64 x.i)) := by go_simp
    have e1 : ((w.alloc (.cells #[.int .i64 x.i, .string x.k, .int .i64 x.f, .int .i64 x.t] 37)).alloc (.cells #[.int .i64 x.i, .string x.k, .int .i64 x.f, .int .i64 x.t] 37)).cell? ⟨w.heap.size + 1, 1, none⟩ = some ((.string x.k)) := by go_simp
    have e2 : ((w.alloc (.cells #[.int .i64 x.i, .string x.k, .int .i64 x.f, .int .i64 x.t] 37)).alloc (.cells #[.int .i64 x.i, .string x.k, .int .i64 x.f, .int .i64 x.t] 37)).cell? ⟨w.heap.size + 1, 2, none⟩ = some ((.int .i64 x.f)) := by go_simp
    have e3 : ((w.alloc (.cells #[.int .i64 x.i, .string x.k, .int .i64 x.f, .int .i64 x.t] 37)).alloc (.cells #[.int .i64 x.i, .string x.k, .int .i64 x.f, .int .i64 x.t] 37)).cell? ⟨w.heap.size + 1, 3, none⟩ = some ((.int .i64 x.t)) := by go_simp
    refine bodyPost_ret (results_cellt rfl _ _ (by rfl) (by rfl) (crd_load (x := x) e0 e1 e2 e3)) rfl ?_
    exact ⟨by rw [HR.out]; rfl, bal (below_alloc _ _) _⟩
end Go.Proofs.YtikpmkidfppknaaGreatDoor

/- Credentials compared; looked for. -/
namespace Go.Proofs.YtikpmkidfppknaaGreatDoor
open Go.RowKit Go.Shelf
attribute [local go_sem] Oper.semAt_some

theorem bytes_ne {s t : ByteArray} (h : ¬ s = t) : (s.toList == t.toList) = false ∧ ¬ s.toList = t.toList := by
  have h2 : ¬ s.toList = t.toList := by
    intro e
    apply h
    rw [Go.ByteArray.toList_eq, Go.ByteArray.toList_eq] at e
    exact ByteArray.ext (Array.toList_inj.1 e)
  exact ⟨beq_eq_false_iff_ne.2 h2, h2⟩
set_option maxRecDepth 100000 in
set_option maxHeartbeats 4000000 in
theorem eql_same (x : Crd) (W : World) : (binOp .eql 37 (.agg #[.int .i64 x.i, .string x.k, .int .i64 x.f, .int .i64 x.t]) (.agg #[.int .i64 x.i, .string x.k, .int .i64 x.f, .int .i64 x.t])).run Tryz.prog W = .ok (.bool true) W := by
  go_simp
set_option maxRecDepth 100000 in
set_option maxHeartbeats 4000000 in
theorem eql_diff (x y : Crd) (h : ¬ x = y) (W : World) : (binOp .eql 37 (.agg #[.int .i64 x.i, .string x.k, .int .i64 x.f, .int .i64 x.t]) (.agg #[.int .i64 y.i, .string y.k, .int .i64 y.f, .int .i64 y.t])).run Tryz.prog W = .ok (.bool false) W := by
  obtain ⟨xi, xk, xf, xt⟩ := x
  obtain ⟨yi, yk, yf, yt⟩ := y
  by_cases h1 : xi = yi
  · subst h1
    by_cases h2 : xk = yk
    · subst h2
      by_cases h3 : xf = yf
      · subst h3
        by_cases h4 : xt = yt
        · subst h4; exact absurd rfl h
        · have h5 : (xt == yt) = false := beq_eq_false_iff_ne.2 h4
          clear h
          go_simp
      · have h5 : (xf == yf) = false := beq_eq_false_iff_ne.2 h3
        clear h
        go_simp
    · obtain ⟨n1, n2⟩ := bytes_ne h2
      clear h
      go_simp
  · have h5 : (xi == yi) = false := beq_eq_false_iff_ne.2 h1
    clear h
    go_simp
end Go.Proofs.YtikpmkidfppknaaGreatDoor

/- Credentials looked for; the greatest; those that hold. -/
namespace Go.Proofs.YtikpmkidfppknaaGreatDoor
open Go.RowKit Go.Shelf
attribute [local go_sem] Oper.semAt_some

/-- What Index answers. -/
def IxP (l : List Crd) (x : Crd) (w : World) (y : Ending) (w' : World) : Prop := ∃ z : Int, y = .returned (.int .i64 z) ∧ (0 ≤ z ↔ x ∈ l) ∧ Below w.heap.size w w'
set_option maxRecDepth 100000 in
set_option maxHeartbeats 4000000 in
theorem Index_c (a : Option Addr) (cap : Nat) (l : List Crd) (hs : l.length ≤ 100000) (x : Crd) (w : World) (hA : CrdAt w.heap.size w a l) :
    Calls Tryz.prog 81 #[.slice a l.length cap, .agg #[.int .i64 x.i, .string x.k, .int .i64 x.f, .int .i64 x.t]] w (IxP l x w) := by
  have HA := Lib.hid hA
  have x0 : (w.alloc (.cells #[.int .i64 x.i, .string x.k, .int .i64 x.f, .int .i64 x.t] 37)).cell? ⟨w.heap.size, 0, none⟩ = some (.int .i64 x.i) := by go_simp
  have x1 : (w.alloc (.cells #[.int .i64 x.i, .string x.k, .int .i64 x.f, .int .i64 x.t] 37)).cell? ⟨w.heap.size, 1, none⟩ = some (.string x.k) := by go_simp
  have x2 : (w.alloc (.cells #[.int .i64 x.i, .string x.k, .int .i64 x.f, .int .i64 x.t] 37)).cell? ⟨w.heap.size, 2, none⟩ = some (.int .i64 x.f) := by go_simp
  have x3 : (w.alloc (.cells #[.int .i64 x.i, .string x.k, .int .i64 x.f, .int .i64 x.t] 37)).cell? ⟨w.heap.size, 3, none⟩ = some (.int .i64 x.t) := by go_simp
  have HX := Lib.hid (And.intro x0 (And.intro x1 (And.intro x2 x3)))
  have B1 := Lib.hid (below_alloc w (.cells #[.int .i64 x.i, .string x.k, .int .i64 x.f, .int .i64 x.t] 37))
  clear hA x0 x1 x2 x3
  go_enter Tryz.func81, Tryz.ntmps81
  go_wp2
  generalize w.alloc (.cells #[.int .i64 x.i, .string x.k, .int .i64 x.f, .int .i64 x.t] 37) = w1 at *
  go_loopw [8] (fun i wr => ∃ k : Nat, k ≤ l.length ∧ i = .int .i64 (k : Int) ∧ Hid (∀ j, (h : j < l.length) → j < k → ¬ l[j] = x) ∧ Hid (Below w1.heap.size w1 wr)) (fun i _ => l.length - (intOf i).toNat)
  case atStart => exact ⟨0, Nat.zero_le _, rfl, Lib.hid (fun j _ h => absurd h (Nat.not_lt_zero j)), Lib.hid (Below.refl _ _)⟩
  case round =>
    obtain ⟨k, hk, rfl, hno, hb⟩ := hrel
    by_cases hlt : k < l.length
    · have hlt' : (k : Int) < (l.length : Int) := by omega
      have hBw := btr B1.out hb.out
      obtain ⟨b, off, rfl, hbn, c0, c1, c2, c3⟩ := (HA.out.below hBw) k hlt
      obtain ⟨x0, x1, x2, x3⟩ := HX.out
      replace x0 := (hb.out.cell (blt x0)).trans x0
      replace x1 := (hb.out.cell (blt x1)).trans x1
      replace x2 := (hb.out.cell (blt x2)).trans x2
      replace x3 := (hb.out.cell (blt x3)).trans x3
      have HB0 := Lib.hid hBw
      by_cases hxy : x = l[k]
      · have HM := Lib.hid (show x ∈ l from hxy ▸ List.getElem_mem hlt)
        rw [← hxy] at c0 c1 c2 c3
        have E := fun W => eql_same x W
        clear hxy hBw hbn
        go_wp2_with fail
        have u0 : Below wr.heap.size wr wr := Below.refl _ wr
        have MK := Lib.hid (show ∀ w', Below wr.heap.size wr w' → w'.cell? ⟨w.heap.size, 0, none⟩ = some (.int .i64 x.i) ∧ w'.cell? ⟨w.heap.size, 1, none⟩ = some (.string x.k) ∧ w'.cell? ⟨w.heap.size, 2, none⟩ = some (.int .i64 x.f) ∧ w'.cell? ⟨w.heap.size, 3, none⟩ = some (.int .i64 x.t) ∧ w'.cell? ⟨b, off + k * 4, none⟩ = some (.int .i64 x.i) ∧ w'.cell? ⟨b, off + k * 4 + 1, none⟩ = some (.string x.k) ∧ w'.cell? ⟨b, off + k * 4 + 2, none⟩ = some (.int .i64 x.f) ∧ w'.cell? ⟨b, off + k * 4 + 3, none⟩ = some (.int .i64 x.t) ∧ Below wr.heap.size wr w' from fun w' h => ⟨(h.cell (blt x0)).trans x0, (h.cell (blt x1)).trans x1, (h.cell (blt x2)).trans x2, (h.cell (blt x3)).trans x3, (h.cell (blt c0)).trans c0, (h.cell (blt c1)).trans c1, (h.cell (blt c2)).trans c2, (h.cell (blt c3)).trans c3, h⟩)
        refine wp_region_held_drew (S := (fun w' => w'.cell? ⟨w.heap.size, 0, none⟩ = some (.int .i64 x.i) ∧ w'.cell? ⟨w.heap.size, 1, none⟩ = some (.string x.k) ∧ w'.cell? ⟨w.heap.size, 2, none⟩ = some (.int .i64 x.f) ∧ w'.cell? ⟨w.heap.size, 3, none⟩ = some (.int .i64 x.t) ∧ w'.cell? ⟨b, off + k * 4, none⟩ = some (.int .i64 x.i) ∧ w'.cell? ⟨b, off + k * 4 + 1, none⟩ = some (.string x.k) ∧ w'.cell? ⟨b, off + k * 4 + 2, none⟩ = some (.int .i64 x.f) ∧ w'.cell? ⟨b, off + k * 4 + 3, none⟩ = some (.int .i64 x.t) ∧ Below wr.heap.size wr w')) (by kernel_rfl) ?_ (fun hHeld => ?_)
        · (first | with_reducible assumption | exact MK.out _ (by with_reducible assumption) | exact MK.out _ (below_drew (by with_reducible assumption)))
        refine takeH (i := 0) (some 11) (v := ?_) rfl rfl (by kernel_rfl) (by kernel_rfl) (by kernel_rfl) (fun _ _ _ h => h) (Or.inl ⟨by rfl, ?hyA0⟩) hHeld ?restA0
        case hyA0 => (intro w hSw; (try dsimp only at hSw); go_simp; (try with_reducible rfl))
        try simp only [Act.put, List.setIfInBounds_toArray, List.set_cons_zero, List.set_cons_succ]
        refine takeH (i := 1) (some 12) (v := ?_) rfl rfl (by kernel_rfl) (by kernel_rfl) (by kernel_rfl) (fun _ _ _ h => h) (Or.inl ⟨by rfl, ?hyA1⟩) hHeld ?restA1
        case hyA1 => (intro w hSw; (try dsimp only at hSw); go_simp; (try with_reducible rfl))
        try simp only [Act.put, List.setIfInBounds_toArray, List.set_cons_zero, List.set_cons_succ]
        refine takeH (i := 2) (some 13) (v := ?_) rfl rfl (by kernel_rfl) (by kernel_rfl) (by kernel_rfl) (fun _ _ _ h => h) (Or.inl ⟨by rfl, ?hyA2⟩) hHeld ?restA2
        case hyA2 => (intro w hSw; (try dsimp only at hSw); go_simp; (try with_reducible rfl))
        try simp only [Act.put, List.setIfInBounds_toArray, List.set_cons_zero, List.set_cons_succ]
        refine takeH (i := 3) (some 14) (v := ?_) rfl rfl (by kernel_rfl) (by kernel_rfl) (by kernel_rfl) (fun _ _ _ h => h) (Or.inl ⟨by rfl, ?hyA3⟩) hHeld ?restA3
        case hyA3 => (intro w hSw; (try dsimp only at hSw); go_simp; (try with_reducible rfl))
        try simp only [Act.put, List.setIfInBounds_toArray, List.set_cons_zero, List.set_cons_succ]
        refine takeH (i := 4) (some 15) (v := ?_) rfl rfl (by kernel_rfl) (by kernel_rfl) (by kernel_rfl) (fun _ _ _ h => h) (Or.inl ⟨by rfl, ?hyA4⟩) hHeld ?restA4
        case hyA4 => (intro w hSw; (try dsimp only at hSw); go_simp; (try with_reducible rfl))
        try simp only [Act.put, List.setIfInBounds_toArray, List.set_cons_zero, List.set_cons_succ]
        refine takeH (i := 5) (some 16) (v := ?_) rfl rfl (by kernel_rfl) (by kernel_rfl) (by kernel_rfl) (fun _ _ _ h => h) (Or.inl ⟨by rfl, ?hyA5⟩) hHeld ?restA5
        case hyA5 => (intro w hSw; (try dsimp only at hSw); go_simp; (try with_reducible rfl))
        try simp only [Act.put, List.setIfInBounds_toArray, List.set_cons_zero, List.set_cons_succ]
        refine wpAnyH_done (by kernel_rfl) ?_ _
        have HB := Lib.hid (btr HB0.out hHeld.2.2.2.2.2.2.2.2)
        clear hHeld x0 x1 x2 x3 c0 c1 c2 c3 E
        go_wp2
        go_ret
        exact ⟨(k : Int), rfl, ⟨fun _ => HM.out, fun _ => by omega⟩, HB.out⟩
      · have E := fun W => eql_diff x (l[k]) hxy W
        have HN := Lib.hid (show ∀ j, (h : j < l.length) → j < k + 1 → ¬ l[j] = x from fun j h hj e => by
          rcases Nat.lt_succ_iff_lt_or_eq.1 hj with h1 | h1
          · exact hno.out j h h1 e
          · subst h1; exact hxy e.symm)
        clear hxy hBw hbn
        generalize l[k] = y at *
        go_wp2_with fail
        have u0 : Below wr.heap.size wr wr := Below.refl _ wr
        have MK := Lib.hid (show ∀ w', Below wr.heap.size wr w' → w'.cell? ⟨w.heap.size, 0, none⟩ = some (.int .i64 x.i) ∧ w'.cell? ⟨w.heap.size, 1, none⟩ = some (.string x.k) ∧ w'.cell? ⟨w.heap.size, 2, none⟩ = some (.int .i64 x.f) ∧ w'.cell? ⟨w.heap.size, 3, none⟩ = some (.int .i64 x.t) ∧ w'.cell? ⟨b, off + k * 4, none⟩ = some (.int .i64 y.i) ∧ w'.cell? ⟨b, off + k * 4 + 1, none⟩ = some (.string y.k) ∧ w'.cell? ⟨b, off + k * 4 + 2, none⟩ = some (.int .i64 y.f) ∧ w'.cell? ⟨b, off + k * 4 + 3, none⟩ = some (.int .i64 y.t) ∧ Below wr.heap.size wr w' from fun w' h => ⟨(h.cell (blt x0)).trans x0, (h.cell (blt x1)).trans x1, (h.cell (blt x2)).trans x2, (h.cell (blt x3)).trans x3, (h.cell (blt c0)).trans c0, (h.cell (blt c1)).trans c1, (h.cell (blt c2)).trans c2, (h.cell (blt c3)).trans c3, h⟩)
        refine wp_region_held_drew (S := (fun w' => w'.cell? ⟨w.heap.size, 0, none⟩ = some (.int .i64 x.i) ∧ w'.cell? ⟨w.heap.size, 1, none⟩ = some (.string x.k) ∧ w'.cell? ⟨w.heap.size, 2, none⟩ = some (.int .i64 x.f) ∧ w'.cell? ⟨w.heap.size, 3, none⟩ = some (.int .i64 x.t) ∧ w'.cell? ⟨b, off + k * 4, none⟩ = some (.int .i64 y.i) ∧ w'.cell? ⟨b, off + k * 4 + 1, none⟩ = some (.string y.k) ∧ w'.cell? ⟨b, off + k * 4 + 2, none⟩ = some (.int .i64 y.f) ∧ w'.cell? ⟨b, off + k * 4 + 3, none⟩ = some (.int .i64 y.t) ∧ Below wr.heap.size wr w')) (by kernel_rfl) ?_ (fun hHeld => ?_)
        · (first | with_reducible assumption | exact MK.out _ (by with_reducible assumption) | exact MK.out _ (below_drew (by with_reducible assumption)))
        refine takeH (i := 0) (some 11) (v := ?_) rfl rfl (by kernel_rfl) (by kernel_rfl) (by kernel_rfl) (fun _ _ _ h => h) (Or.inl ⟨by rfl, ?hyB0⟩) hHeld ?restB0
        case hyB0 => (intro w hSw; (try dsimp only at hSw); go_simp; (try with_reducible rfl))
        try simp only [Act.put, List.setIfInBounds_toArray, List.set_cons_zero, List.set_cons_succ]
        refine takeH (i := 1) (some 12) (v := ?_) rfl rfl (by kernel_rfl) (by kernel_rfl) (by kernel_rfl) (fun _ _ _ h => h) (Or.inl ⟨by rfl, ?hyB1⟩) hHeld ?restB1
        case hyB1 => (intro w hSw; (try dsimp only at hSw); go_simp; (try with_reducible rfl))
        try simp only [Act.put, List.setIfInBounds_toArray, List.set_cons_zero, List.set_cons_succ]
        refine takeH (i := 2) (some 13) (v := ?_) rfl rfl (by kernel_rfl) (by kernel_rfl) (by kernel_rfl) (fun _ _ _ h => h) (Or.inl ⟨by rfl, ?hyB2⟩) hHeld ?restB2
        case hyB2 => (intro w hSw; (try dsimp only at hSw); go_simp; (try with_reducible rfl))
        try simp only [Act.put, List.setIfInBounds_toArray, List.set_cons_zero, List.set_cons_succ]
        refine takeH (i := 3) (some 14) (v := ?_) rfl rfl (by kernel_rfl) (by kernel_rfl) (by kernel_rfl) (fun _ _ _ h => h) (Or.inl ⟨by rfl, ?hyB3⟩) hHeld ?restB3
        case hyB3 => (intro w hSw; (try dsimp only at hSw); go_simp; (try with_reducible rfl))
        try simp only [Act.put, List.setIfInBounds_toArray, List.set_cons_zero, List.set_cons_succ]
        refine takeH (i := 4) (some 15) (v := ?_) rfl rfl (by kernel_rfl) (by kernel_rfl) (by kernel_rfl) (fun _ _ _ h => h) (Or.inl ⟨by rfl, ?hyB4⟩) hHeld ?restB4
        case hyB4 => (intro w hSw; (try dsimp only at hSw); go_simp; (try with_reducible rfl))
        try simp only [Act.put, List.setIfInBounds_toArray, List.set_cons_zero, List.set_cons_succ]
        refine takeH (i := 5) (some 16) (v := ?_) rfl rfl (by kernel_rfl) (by kernel_rfl) (by kernel_rfl) (fun _ _ _ h => h) (Or.inl ⟨by rfl, ?hyB5⟩) hHeld ?restB5
        case hyB5 => (intro w hSw; (try dsimp only at hSw); go_simp; (try with_reducible rfl))
        try simp only [Act.put, List.setIfInBounds_toArray, List.set_cons_zero, List.set_cons_succ]
        refine wpAnyH_done (by kernel_rfl) ?_ _
        have HB := Lib.hid (btr hb.out hHeld.2.2.2.2.2.2.2.2)
        clear hHeld x0 x1 x2 x3 c0 c1 c2 c3 E
        go_wp2
        go_roundw
        case rel => exact ⟨k + 1, by omega, by go_num, HN, HB⟩
        case measure => simp [intOf]; omega
    · have hge : ¬ (k : Int) < (l.length : Int) := by omega
      have HM := Lib.hid (show ¬ x ∈ l from fun h => by
        obtain ⟨j, hj, e⟩ := List.getElem_of_mem h
        exact hno.out j hj (by omega) e)
      go_wp2
      go_ret
      exact ⟨-1, rfl, ⟨fun h => by omega, fun h => absurd h HM.out⟩, btr B1.out hb.out⟩
set_option maxRecDepth 100000 in
set_option maxHeartbeats 4000000 in
theorem Contains_c (a : Option Addr) (cap : Nat) (l : List Crd) (hs : l.length ≤ 100000) (x : Crd) (b : Bool) (hb : b = true ↔ x ∈ l) (w : World) (hA : CrdAt w.heap.size w a l) :
    Calls Tryz.prog 60 #[.slice a l.length cap, .agg #[.int .i64 x.i, .string x.k, .int .i64 x.f, .int .i64 x.t]] w fun y w' => y = .returned (.bool b) ∧ Below w.heap.size w w' := by
  have HI := Lib.hid (Index_c a cap l hs x _ (hA.on (below_alloc w (.cells #[.int .i64 x.i, .string x.k, .int .i64 x.f, .int .i64 x.t] 37))))
  have HBB := Lib.hid hb
  clear hb hA
  go_enter Tryz.func60, Tryz.ntmps60
  go_wp2_with fail
  refine HI.out.mono ?_
  rintro e w1 ⟨z, rfl, hz, hb⟩
  have HB := Lib.hid (btr (below_alloc w _) hb)
  have HZ := Lib.hid hz
  clear hb hz
  go_wp2
  go_ret
  refine ⟨ret_bool ?_, HB.out⟩
  show decide (0 ≤ z) = b
  rw [Bool.eq_iff_iff, decide_eq_true_iff, HZ.out, HBB.out]
theorem grtL_last (l : List Crd) (p : Nat) (h : l.length = p + 1) : grtL l = (l[p]'(by omega)).i := by
  unfold grtL
  rw [List.getLast?_eq_getElem?, show l.length - 1 = p by omega, List.getElem?_eq_getElem (by omega)]
  rfl
set_option maxRecDepth 100000 in
set_option maxHeartbeats 4000000 in
theorem greatest_c (a : Option Addr) (cap : Nat) (l : List Crd) (hs : l.length ≤ 100000) (w : World) (hA : CrdAt w.heap.size w a l) :
    Calls Tryz.prog 28 #[.slice a l.length cap] w fun y w' => y = .returned (.int .i64 (grtL l)) ∧ w = w' := by
  cases hl : l.length with
  | zero =>
    have e : l = [] := List.length_eq_zero_iff.1 hl
    subst e
    clear hl
    go_enter Tryz.func28, Tryz.ntmps28
    go_wp2
    go_ret
    exact ⟨rfl, rfl⟩
  | succ p =>
    have HG := Lib.hid (grtL_last l p hl)
    obtain ⟨b, off, rfl, hb0, c0, hr⟩ := hA p (by omega)
    clear hr hb0
    generalize (l[p]'(by omega)).i = g at *
    have HL := Lib.hid hl
    have e1 : IntKind.i64.wrap ((p : Int) + 1 - 1) = (p : Int) := by rw [IntWalk.i64_in _ (by omega)]; omega
    have e2 : (p : Int) + 1 - 1 = (p : Int) := by omega
    have e3 : ¬ (p : Int) + 1 = 0 := by omega
    have e4 : IntKind.i64.wrap (p : Int) = (p : Int) := IntWalk.i64_in _ (by omega)
    have e5 : (p : Int) < (p : Int) + 1 := by omega
    have e6 : p < p + 1 := by omega
    clear hl hA hs
    go_enter Tryz.func28, Tryz.ntmps28
    go_wp2
    go_ret
    exact ⟨by rw [HG.out]; rfl, rfl⟩
end Go.Proofs.YtikpmkidfppknaaGreatDoor

/- Challenge. -/
namespace Go.Proofs.YtikpmkidfppknaaGreatDoor
open Go.RowKit Go.Shelf
attribute [local go_sem] Oper.semAt_some

def itB (n : Int) : ByteArray := ⟨(Lib.itoa n).toArray⟩
theorem itB_size (n : Int) (h0 : 0 ≤ n) (h1 : n ≤ 2147483647) : (itB n).size ≤ 21 := by
  have := Lib.itoa_length_le n (by omega) (by omega)
  show (Lib.itoa n).toArray.size ≤ 21
  rw [List.size_toArray]; exact this
/-- The text that a challenge is the sum of. -/
def chT (a b : Int) : ByteArray := ((⟨#[99, 104, 97, 108, 108, 101, 110, 103, 101, 32]⟩ : ByteArray) ++ itB a) ++ (⟨#[32]⟩ : ByteArray) ++ itB b
/-- What Challenge answers. -/
def chV (a b : Int) : Value := .tuple (if isAskB a = true then (if isAskB b = true then #[.string (ofL (sumL (bL (chT a b)))), .int .i64 0] else #[.string ⟨#[]⟩, .int .i64 2]) else #[.string ⟨#[]⟩, .int .i64 2])
set_option maxRecDepth 100000 in
set_option maxHeartbeats 8000000 in
theorem Challenge_c (a b : Int) (w : World) (hL : Lay w) : Calls Tryz.prog 19 #[.int .i64 a, .int .i64 b] w fun r w' => r = .returned (chV a b) ∧ Below w.heap.size w w' := by
  have HA := Lib.hid (fun n W => isAsked_c n W)
  have HA1 := Lib.hid (fun n b0 b1 b2 b3 W h0 h1 h2 h3 => between1_c n b0 b1 b2 b3 W h0 h1 h2 h3)
  have HN := Lib.hid (fun c W h => no_c W c h)
  have HL := Lib.hid hL
  clear hL
  go_enter Tryz.func19, Tryz.ntmps19
  go_wp2_with fail
  refine (HA.out a _).mono ?_
  rintro e w1 ⟨rfl, rfl⟩
  go_wp2_with fail
  refine (HA.out b _).mono ?_
  rintro e w1 ⟨rfl, rfl⟩
  go_wp2_with fail
  have hW : ∃ W3, W3 = (((((((((w.alloc (.cells #[.int .i64 a] 3)).alloc (.cells #[.int .i64 0] 3)).alloc (.cells #[.int .i64 2147483647] 3)).alloc (.cells #[.int .i64 2] 26)).alloc (.cells #[.int .i64 b] 3)).alloc (.cells #[.int .i64 0] 3)).alloc (.cells #[.int .i64 2147483647] 3)).alloc (.cells #[.int .i64 2] 26)).alloc (.cells #[.func (.func 55) #[] #[.pointer (some ⟨w.heap.size, 0, none⟩), .pointer (some ⟨w.heap.size + 1, 0, none⟩), .pointer (some ⟨w.heap.size + 2, 0, none⟩), .pointer (some ⟨w.heap.size + 3, 0, none⟩)], .func (.func 55) #[] #[.pointer (some ⟨w.heap.size + 1 + 1 + 1 + 1, 0, none⟩), .pointer (some ⟨w.heap.size + 1 + 1 + 1 + 1 + 1, 0, none⟩), .pointer (some ⟨w.heap.size + 1 + 1 + 1 + 1 + 2, 0, none⟩), .pointer (some ⟨w.heap.size + 1 + 1 + 1 + 1 + 3, 0, none⟩)]] 49)) ∧ W3.cell? ⟨w.heap.size, 0, none⟩ = some (.int .i64 a) ∧ W3.cell? ⟨w.heap.size + 1, 0, none⟩ = some (.int .i64 0) ∧ W3.cell? ⟨w.heap.size + 2, 0, none⟩ = some (.int .i64 2147483647) ∧ W3.cell? ⟨w.heap.size + 3, 0, none⟩ = some (.int .i64 2) ∧ W3.cell? ⟨w.heap.size + 1 + 1 + 1 + 1, 0, none⟩ = some (.int .i64 b) ∧ W3.cell? ⟨w.heap.size + 1 + 1 + 1 + 1 + 1, 0, none⟩ = some (.int .i64 0) ∧ W3.cell? ⟨w.heap.size + 1 + 1 + 1 + 1 + 2, 0, none⟩ = some (.int .i64 2147483647) ∧ W3.cell? ⟨w.heap.size + 1 + 1 + 1 + 1 + 3, 0, none⟩ = some (.int .i64 2) ∧ W3.cell? ⟨w.heap.size + 1 + 1 + 1 + 1 + 1 + 1 + 1 + 1, 0, none⟩ = some (.func (.func 55) #[] #[.pointer (some ⟨w.heap.size, 0, none⟩), .pointer (some ⟨w.heap.size + 1, 0, none⟩), .pointer (some ⟨w.heap.size + 2, 0, none⟩), .pointer (some ⟨w.heap.size + 3, 0, none⟩)]) ∧ W3.cell? ⟨w.heap.size + 1 + 1 + 1 + 1 + 1 + 1 + 1 + 1, 1, none⟩ = some (.func (.func 55) #[] #[.pointer (some ⟨w.heap.size + 1 + 1 + 1 + 1, 0, none⟩), .pointer (some ⟨w.heap.size + 1 + 1 + 1 + 1 + 1, 0, none⟩), .pointer (some ⟨w.heap.size + 1 + 1 + 1 + 1 + 2, 0, none⟩), .pointer (some ⟨w.heap.size + 1 + 1 + 1 + 1 + 3, 0, none⟩)]) ∧ Below w.heap.size w W3 :=
    ⟨_, rfl, by go_simp, by go_simp, by go_simp, by go_simp, by go_simp, by go_simp, by go_simp, by go_simp, by go_simp, by go_simp, bal (bal (bal (bal (bal (bal (bal (bal (below_alloc _ _) _) _) _) _) _) _) _) _⟩
  obtain ⟨W3, hW3, c0, c1, c2, c3, d0, d1, d2, d3, hf0, hf1, hB3⟩ := hW
  rw [← hW3]
  clear hW3
  refine (faultFirst_c 2 (by omega) (w.heap.size + 1 + 1 + 1 + 1 + 1 + 1 + 1 + 1) (fun _ => 55) (fun _ => #[]) (fun i => if i = 0 then #[.pointer (some ⟨w.heap.size, 0, none⟩), .pointer (some ⟨w.heap.size + 1, 0, none⟩), .pointer (some ⟨w.heap.size + 2, 0, none⟩), .pointer (some ⟨w.heap.size + 3, 0, none⟩)] else #[.pointer (some ⟨w.heap.size + 1 + 1 + 1 + 1, 0, none⟩), .pointer (some ⟨w.heap.size + 1 + 1 + 1 + 1 + 1, 0, none⟩), .pointer (some ⟨w.heap.size + 1 + 1 + 1 + 1 + 2, 0, none⟩), .pointer (some ⟨w.heap.size + 1 + 1 + 1 + 1 + 3, 0, none⟩)]) (fun i => if i = 0 then errV (isAskB a) 2 else errV (isAskB b) 2) _ ?hc ?HC ?eg ?her).mono ?_
  case hc =>
    intro i hi
    obtain rfl | rfl : i = 0 ∨ i = 1 := by omega
    · exact hf0
    · exact hf1
  case HC =>
    intro i hi _ W hW
    obtain rfl | rfl : i = 0 ∨ i = 1 := by omega
    · exact HA1.out _ _ _ _ _ W ((hW.cell (p := ⟨w.heap.size, 0, none⟩) (blt c0)).trans c0) ((hW.cell (p := ⟨w.heap.size + 1, 0, none⟩) (blt c1)).trans c1) ((hW.cell (p := ⟨w.heap.size + 2, 0, none⟩) (blt c2)).trans c2) ((hW.cell (p := ⟨w.heap.size + 3, 0, none⟩) (blt c3)).trans c3)
    · exact HA1.out _ _ _ _ _ W ((hW.cell (p := ⟨w.heap.size + 1 + 1 + 1 + 1, 0, none⟩) (blt d0)).trans d0) ((hW.cell (p := ⟨w.heap.size + 1 + 1 + 1 + 1 + 1, 0, none⟩) (blt d1)).trans d1) ((hW.cell (p := ⟨w.heap.size + 1 + 1 + 1 + 1 + 2, 0, none⟩) (blt d2)).trans d2) ((hW.cell (p := ⟨w.heap.size + 1 + 1 + 1 + 1 + 3, 0, none⟩) (blt d3)).trans d3)
  case eg =>
    intro i hi args W
    exact enters_of Tryz.func55 (by kernel_rfl) rfl args W
  case her =>
    intro i hi
    obtain rfl | rfl : i = 0 ∨ i = 1 := by omega
    · exact errV_or _ _
    · exact errV_or _ _
  rintro e w2 ⟨rfl, hb2⟩
  rw [two_err]
  have HB2 := Lib.hid (btr hB3 hb2)
  have HL2 := Lib.hid (HL.out.on HB2.out)
  clear hb2 hB3 c0 c1 c2 c3 d0 d1 d2 d3 hf0 hf1
  cases hb : isAskB a
  · rw [if_neg (by decide), show errV false 2 = .iface 82 (.agg #[.int .i64 2]) from rfl]
    go_wp2_with fail
    refine (HN.out _ _ HL2.out.et).mono ?_
    rintro e w3 ⟨rfl, hb3⟩
    go_wp2
    go_ret2
    exact ⟨by unfold chV; rw [hb]; rfl, btr HB2.out hb3⟩
  · rw [if_pos rfl]
    cases hb' : isAskB b
    · rw [show errV false 2 = .iface 82 (.agg #[.int .i64 2]) from rfl]
      go_wp2_with fail
      refine (HN.out _ _ HL2.out.et).mono ?_
      rintro e w3 ⟨rfl, hb3⟩
      go_wp2
      go_ret2
      exact ⟨by unfold chV; rw [hb, hb']; rfl, btr HB2.out hb3⟩
    · rw [show errV true 2 = .nilIface from rfl]
      obtain ⟨ha0, ha1⟩ := of_decide_eq_true hb
      obtain ⟨hb0, hb1⟩ := of_decide_eq_true hb'
      have HI := Lib.hid (fun W h => itoa_c a ha0 ha1 W h)
      have HJ := Lib.hid (fun W h => itoa_c b hb0 hb1 W h)
      have hsa := itB_size a ha0 ha1
      have hsb := itB_size b hb0 hb1
      have HQ := Lib.hid (show chV a b = .tuple #[.string (ofL (sumL (bL (chT a b)))), .int .i64 0] by unfold chV; rw [hb, hb']; rfl)
      have hse : (chT a b).size ≤ 100000 := by
        unfold chT
        rw [ByteArray.size_append, ByteArray.size_append, ByteArray.size_append]
        show 10 + (itB a).size + 1 + (itB b).size ≤ 100000
        omega
      have HS := Lib.hid (fun W h => Sum_c (chT a b) hse W h)
      unfold chT at HS hse
      rw [show (⟨(Lib.itoa a).toArray⟩ : ByteArray) = itB a from rfl] at HI
      rw [show (⟨(Lib.itoa b).toArray⟩ : ByteArray) = itB b from rfl] at HJ
      have hQ2 : chT a b = ((⟨#[99, 104, 97, 108, 108, 101, 110, 103, 101, 32]⟩ : ByteArray) ++ itB a) ++ (⟨#[32]⟩ : ByteArray) ++ itB b := rfl
      rw [hQ2] at HQ
      clear hQ2
      generalize itB a = SA at *
      generalize itB b = SB at *
      have z0 : (⟨#[99, 104, 97, 108, 108, 101, 110, 103, 101, 32]⟩ : ByteArray).size = 10 := rfl
      have z1 : (⟨#[32]⟩ : ByteArray).size = 1 := rfl
      generalize hC0 : (⟨#[99, 104, 97, 108, 108, 101, 110, 103, 101, 32]⟩ : ByteArray) = C0 at *
      generalize hC1 : (⟨#[32]⟩ : ByteArray) = C1 at *
      clear hse
      go_wp2_with fail
      refine (HI.out _ HL2.out.pw).mono ?_
      rintro e w3 ⟨rfl, hb3⟩
      have HB3 := Lib.hid (btr HB2.out hb3)
      have HL3 := Lib.hid (HL2.out.on hb3)
      clear hb3
      go_wp2_with fail
      refine (HJ.out _ HL3.out.pw).mono ?_
      rintro e w4 ⟨rfl, hb4⟩
      have HB4 := Lib.hid (btr HB3.out hb4)
      have HL4 := Lib.hid (HL3.out.on hb4)
      clear hb4
      go_wp2_with fail
      refine (HS.out _ HL4.out.tabs).mono ?_
      rintro e w5 ⟨rfl, hb5⟩
      go_wp2
      go_ret2
      exact ⟨by rw [HQ.out]; rfl, btr HB4.out hb5⟩
end Go.Proofs.YtikpmkidfppknaaGreatDoor

/- What is made for changes and checks; Holding. -/
namespace Go.Proofs.YtikpmkidfppknaaGreatDoor
open Go.RowKit Go.Shelf
attribute [local go_sem] Oper.semAt_some

theorem row_mono {W : World} {z z' : Nat} {t : TypeId} {n k : Nat} {v : Value} {xs : List Value} (h : W.ownsRow z t n v k xs) (hz : z' ≤ z) : W.ownsRow z' t n v k xs := by
  rcases h with ⟨h1, h2 | ⟨g, cap, cur, rfl, h3, h4⟩⟩
  · exact ⟨h1, .inl h2⟩
  · exact ⟨h1, .inr ⟨g, cap, cur, rfl, Nat.le_trans hz h3, h4⟩⟩
set_option maxRecDepth 100000 in
set_option maxHeartbeats 4000000 in
theorem upTo_c (a : Option Addr) (n c : Nat) (now last : Int) (w : World) : Calls Tryz.prog 30 #[.agg #[.slice a n c, .int .i64 now], .int .i64 last] w fun y w' => y = .returned (.func (.func 57) #[] #[.pointer (some ⟨w.heap.size, 0, none⟩), .pointer (some ⟨w.heap.size + 1, 0, none⟩)]) ∧ w' = ((w.alloc (.cells #[.slice a n c, .int .i64 now] 57)).alloc (.cells #[.int .i64 last] 3)) := by
  go_enter Tryz.func30, Tryz.ntmps30
  go_wp2
  go_ret
  exact ⟨rfl, rfl⟩
set_option maxRecDepth 100000 in
set_option maxHeartbeats 4000000 in
theorem without_c (a : Option Addr) (n c : Nat) (now id : Int) (w : World) : Calls Tryz.prog 34 #[.agg #[.slice a n c, .int .i64 now], .int .i64 id] w fun y w' => y = .returned (.func (.func 61) #[] #[.pointer (some ⟨w.heap.size + 1, 0, none⟩), .pointer (some ⟨w.heap.size, 0, none⟩)]) ∧ w' = ((w.alloc (.cells #[.slice a n c, .int .i64 now] 57)).alloc (.cells #[.int .i64 id] 3)) := by
  go_enter Tryz.func34, Tryz.ntmps34
  go_wp2
  go_ret
  exact ⟨rfl, rfl⟩
set_option maxRecDepth 100000 in
set_option maxHeartbeats 4000000 in
theorem isHolding_c (a : Option Addr) (n c : Nat) (now id : Int) (w : World) : Calls Tryz.prog 33 #[.agg #[.slice a n c, .int .i64 now], .int .i64 id] w fun y w' => y = .returned (.func (.func 58) #[] #[.pointer (some ⟨w.heap.size, 0, none⟩), .pointer (some ⟨w.heap.size + 1, 0, none⟩)]) ∧ w' = ((w.alloc (.cells #[.slice a n c, .int .i64 now] 57)).alloc (.cells #[.int .i64 id] 3)) := by
  go_enter Tryz.func33, Tryz.ntmps33
  go_wp2
  go_ret
  exact ⟨rfl, rfl⟩
set_option maxRecDepth 100000 in
set_option maxHeartbeats 4000000 in
theorem isRight_c (a : Option Addr) (n c : Nat) (w : World) : Calls Tryz.prog 23 #[.slice a n c] w fun y w' => y = .returned (.func (.func 51) #[] #[.pointer (some ⟨w.heap.size, 0, none⟩)]) ∧ w' = (w.alloc (.cells #[.slice a n c] 22)) := by
  go_enter Tryz.func23, Tryz.ntmps23
  go_wp2
  go_ret
  exact ⟨rfl, rfl⟩
set_option maxRecDepth 100000 in
set_option maxHeartbeats 4000000 in
theorem cisKey_c (key : ByteArray) (w : World) : Calls Tryz.prog 24 #[.string key] w fun y w' => y = .returned (.func (.func 53) #[] #[.pointer (some ⟨w.heap.size, 0, none⟩)]) ∧ w' = (w.alloc (.cells #[.string key] 9)) := by
  go_enter Tryz.func24, Tryz.ntmps24
  go_wp2
  go_ret
  exact ⟨rfl, rfl⟩
set_option maxRecDepth 100000 in
set_option maxHeartbeats 4000000 in
theorem isRight1_c (a : Option Addr) (cap : Nat) (l : List Crd) (hs : l.length ≤ 100000) (b : Nat) (w : World) (hb : w.cell? ⟨b, 0, none⟩ = some (.slice a l.length cap)) (hA : CrdAt w.heap.size w a l) :
    Calls Tryz.prog 51 #[.pointer (some ⟨b, 0, none⟩)] w fun y w' => y = .returned (errV (rightB l) 110) ∧ Below w.heap.size w w' := by
  have HR := Lib.hid (cRight_c a cap l hs w hA)
  have HU := Lib.hid (fun b W => unless_c W b 110)
  clear hA
  generalize rightB l = r at *
  go_enter Tryz.func51, Tryz.ntmps51
  go_wp2_with fail
  refine HR.out.mono ?_; rintro e w1 ⟨rfl, hb1⟩
  have HB := Lib.hid hb1
  clear hb1
  go_wp2_with fail
  refine (HU.out _ _).mono ?_; rintro e w2 ⟨rfl, rfl⟩
  go_wp2
  go_ret
  exact ⟨rfl, HB.out⟩
set_option maxRecDepth 100000 in
set_option maxHeartbeats 4000000 in
theorem cisKey1_c (key : ByteArray) (b : Nat) (w : World) (hb : w.cell? ⟨b, 0, none⟩ = some (.string key)) :
    Calls Tryz.prog 53 #[.pointer (some ⟨b, 0, none⟩)] w fun y w' => y = .returned (errV (isKeyB key) 50) ∧ Below w.heap.size w w' := by
  have HR := Lib.hid (Right_c key w)
  have HU := Lib.hid (fun b W => unless_c W b 50)
  generalize isKeyB key = r at *
  go_enter Tryz.func53, Tryz.ntmps53
  go_wp2_with fail
  refine HR.out.mono ?_; rintro e w1 ⟨rfl, hb1⟩
  have HB := Lib.hid hb1
  clear hb1
  go_wp2_with fail
  refine (HU.out _ _).mono ?_; rintro e w2 ⟨rfl, rfl⟩
  go_wp2
  go_ret
  exact ⟨rfl, HB.out⟩
theorem chL_hold (now : Int) (l : List Crd) : chL (holdB now) (fun x => x) l = l.filter (holdB now) := by unfold chL; exact List.map_id' _
theorem ChP.wider {m : List Crd} {w w1 : World} {y : Ending} {w' : World} (h : ChP m w1 y w') (hb : Below w.heap.size w w1) : ChP m w y w' := by
  obtain ⟨v, rfl, ho, hB⟩ := h
  exact ⟨v, rfl, row_mono ho hb.size, btr hb hB⟩
/-- Those that hold, by changed. -/
theorem holding_ch (a : Option Addr) (cap : Nat) (l : List Crd) (hs : l.length ≤ 100000) (now : Int) (w : World) (hA : CrdAt w.heap.size w a l) : Calls Tryz.prog 29 #[.slice a l.length cap, .func (.func 41) #[.agg #[.slice a l.length cap, .int .i64 now]] #[]] w (ChP (l.filter (holdB now)) w) := by
  rw [← chL_hold]
  exact changed_c a cap l hs _ _ _ _ _ w hA (enters_of Tryz.func41 (by kernel_rfl) rfl) (fun x _ W _ => ifHolding_c a l.length cap now x W)
set_option maxRecDepth 100000 in
set_option maxHeartbeats 4000000 in
theorem Holding_c (a : Option Addr) (cap : Nat) (l : List Crd) (hs : l.length ≤ 100000) (now : Int) (w : World) (hA : CrdAt w.heap.size w a l) :
    Calls Tryz.prog 17 #[.slice a l.length cap, .int .i64 now] w (ChP (holdL l now) w) := by
  have HR := Lib.hid (cRight_c a cap l hs w hA)
  have HA := Lib.hid hA
  have HH := Lib.hid (fun W h => holding_ch a cap l hs now W h)
  clear hA
  unfold holdL
  cases hr : rightB l
  · rw [hr] at HR
    rw [if_neg (by decide)]
    clear hr
    go_enter Tryz.func17, Tryz.ntmps17
    go_wp2_with fail
    refine HR.out.mono ?_; rintro e w1 ⟨rfl, hb⟩
    go_wp2
    go_ret
    exact ⟨_, rfl, World.ownsRow_nil _ _ _ _, hb⟩
  · rw [hr] at HR
    rw [if_pos rfl]
    clear hr
    go_enter Tryz.func17, Tryz.ntmps17
    go_wp2_with fail
    refine HR.out.mono ?_; rintro e w1 ⟨rfl, hb⟩
    have HB := Lib.hid (btr hb (below_alloc w1 (.cells #[.slice a l.length cap, .int .i64 now] 57)))
    clear hb
    go_wp2_with fail
    refine (HH.out _ (HA.out.on HB.out)).mono ?_; rintro e w2 h
    have h2 := h.wider HB.out
    obtain ⟨v, rfl, ho, hB⟩ := h2
    have HO := Lib.hid (And.intro ho hB)
    clear h ho hB
    go_wp2
    go_ret
    exact ⟨_, rfl, HO.out.1, HO.out.2⟩
end Go.Proofs.YtikpmkidfppknaaGreatDoor

/- errors.As and fault.No at a fault in a wrapper; fault.Within. -/
namespace Go.Proofs.YtikpmkidfppknaaGreatDoor
open Go.RowKit Go.Extern.Stop Go.Stop Go.Extern

theorem typeOfIn (v : Value) (w : World) : (ReflectliteType.typeOf #[.iface 86 v]).run Tryz.prog w = .ok (.iface 144 (.agg #[.pointer (some ⟨7, 86, none⟩)])) w := by kernel_rfl
theorem assignableIn (w : World) : (ReflectliteType.relation "AssignableTo" ReflectliteType.assignableTo #[.agg #[.pointer (some ⟨7, 86, none⟩)], .iface 144 (.agg #[.pointer (some ⟨7, 82, none⟩)])]).run Tryz.prog w = .ok (.bool false) w := by kernel_rfl
theorem methodUnwrap (a b : Value) (w : World) : (Go.method 316 86 (.agg #[a, b]) "Unwrap").run Tryz.prog w = .ok (142, .agg #[a, b]) w := by kernel_rfl
set_option maxRecDepth 100000 in
set_option maxHeartbeats 4000000 in
theorem as_in (p : ByteArray) (e : Int) (t : Addr) (old : Value) (w : World) (hg : w.cell? ⟨0, 0, none⟩ = some (.iface 144 (.agg #[.pointer (some ⟨7, 47, none⟩)]))) (ht0 : w.cell? t = some old) (hf0 : w.frozen? t = false) :
    Calls Tryz.prog 56 #[.iface 86 (.agg #[.string p, .iface 82 (.agg #[.int .i64 e])]), .iface 84 (.pointer (some t))] w fun ev w' => ev = .returned (.bool true) ∧ w' = (((((w.alloc (.cells #[.pointer (some t)] 84)).alloc (.cells #[.pointer (some ⟨7, 84, none⟩), .pointer (some ⟨w.heap.size, 0, none⟩), .int .u64 150] 116)).alloc (.cells #[.pointer (some ⟨7, 84, none⟩), .pointer (some ⟨w.heap.size, 0, none⟩), .int .u64 150] 116)).alloc (.cells #[.string p, .iface 82 (.agg #[.int .i64 e])] 86)).alloc (.cells #[.int .i64 e] 82)).setCell t (.int .i64 e) := by
  have g6 := @run_callFunc_extern Tryz.prog 77 _ (fun args => ReflectliteValue.unpack (args.getD 0 (.tuple #[]))) Tryz.func77 (by kernel_rfl) (by kernel_rfl) (by kernel_rfl) (by kernel_rfl)
  have g7 := @run_callFunc_extern Tryz.prog 78 _ (ReflectliteValue.methodAny (ReflectliteValue.valueError "reflectlite.Value.Type" 0) (fun t _ _ _ => ReflectliteType.toType t)) Tryz.func78 (by kernel_rfl) (by kernel_rfl) (by kernel_rfl) (by kernel_rfl)
  have g8 := @run_callFunc_extern Tryz.prog 79 _ (ReflectliteValue.method (ReflectliteValue.valueError "reflectlite.Value.IsNil" 0) ReflectliteValue.isNil) Tryz.func79 (by kernel_rfl) (by kernel_rfl) (by kernel_rfl) (by kernel_rfl)
  have g27 := @run_callFunc_extern Tryz.prog 137 _ (ReflectliteType.abiMethod fun t => do pure (.int .u8 (← Rtype.kind t))) Tryz.func137 (by kernel_rfl) (by kernel_rfl) (by kernel_rfl) (by kernel_rfl)
  have g37 := @run_callFunc_extern Tryz.prog 149 _ (ReflectliteType.method ReflectliteType.elem) Tryz.func149 (by kernel_rfl) (by kernel_rfl) (by kernel_rfl) (by kernel_rfl)
  have g38 := @run_callFunc_extern Tryz.prog 150 _ (ReflectliteType.relation "Implements" ReflectliteType.implements_) Tryz.func150 (by kernel_rfl) (by kernel_rfl) (by kernel_rfl) (by kernel_rfl)
  have g10 := @run_callFunc_extern Tryz.prog 91 _ ReflectliteType.typeOf Tryz.func91 (by kernel_rfl) (by kernel_rfl) (by kernel_rfl) (by kernel_rfl)
  have g35 := @run_callFunc_extern Tryz.prog 147 _ (ReflectliteType.relation "AssignableTo" ReflectliteType.assignableTo) Tryz.func147 (by kernel_rfl) (by kernel_rfl) (by kernel_rfl) (by kernel_rfl)
  have g11 := @run_callFunc_extern Tryz.prog 93 _ (ReflectliteValue.method (ReflectliteValue.valueError "reflectlite.Value.Elem" 0) ReflectliteValue.elem) Tryz.func93 (by kernel_rfl) (by kernel_rfl) (by kernel_rfl) (by kernel_rfl)
  have g12 := @run_callFunc_extern Tryz.prog 94 _ ReflectliteValue.set Tryz.func94 (by kernel_rfl) (by kernel_rfl) (by kernel_rfl) (by kernel_rfl)
  have tO := typeOf61
  have tI := typeOfIn
  have aI := assignableIn
  have a1 := fun xT v W => run_typeAssert_lacksB (P := Tryz.prog) (t := 86) (asserted := 148) (z := .nilIface) Tryz.underlying148 (by kernel_rfl) (by kernel_rfl) v xT W
  have a2 := fun xT v W => run_typeAssert_hasB (P := Tryz.prog) (t := 86) (asserted := 151) Tryz.underlying151 (by kernel_rfl) v xT W
  have mU := methodUnwrap
  have mA := methodAssignableTo
  have a25 := assignable61
  have v25 := valueOf61
  have f6 := valueOf63
  have f7 := type63
  have mK := methodKind
  have mE := methodElem
  have mI := methodImplements
  have k27 := kind63
  have k25 := kind61
  have e27 := elem63
  have i25 := implements61
  have n8 := isNil63 ⟨w.heap.size, 0, none⟩ t ((w.alloc (.cells #[.pointer (some t)] 84)).alloc (.cells #[.pointer (some ⟨7, 84, none⟩), .pointer (some ⟨w.heap.size, 0, none⟩), .int .u64 150] 116)) (by simp)
  have hlt : 0 < w.heap.size := blt hg
  have hg2 : ((w.alloc (.cells #[.pointer (some t)] 84)).alloc (.cells #[.pointer (some ⟨7, 84, none⟩), .pointer (some ⟨w.heap.size, 0, none⟩), .int .u64 150] 116)).cell? ⟨0, 0, none⟩ = some (.iface 144 (.agg #[.pointer (some ⟨7, 47, none⟩)])) := by
    rw [World.cell?_alloc_lt _ _ ⟨0, 0, none⟩ (by rw [World.size_alloc]; exact Nat.lt_succ_of_lt hlt), World.cell?_alloc_lt _ _ ⟨0, 0, none⟩ hlt]; exact hg
  have htl : t.block < w.heap.size := by
    rcases Nat.lt_or_ge t.block w.heap.size with h | h
    · exact h
    · simp [World.cell?, Array.getElem?_eq_none h] at ht0
  have el := elemV63 ⟨w.heap.size, 0, none⟩ t ((((w.alloc (.cells #[.pointer (some t)] 84)).alloc (.cells #[.pointer (some ⟨7, 84, none⟩), .pointer (some ⟨w.heap.size, 0, none⟩), .int .u64 150] 116)).alloc (.cells #[.pointer (some ⟨7, 84, none⟩), .pointer (some ⟨w.heap.size, 0, none⟩), .int .u64 150] 116)).alloc (.cells #[.string p, .iface 82 (.agg #[.int .i64 e])] 86)) (by rw [World.cell?_alloc_lt _ _ ⟨w.heap.size, 0, none⟩ (by simp; omega), World.cell?_alloc_lt _ _ ⟨w.heap.size, 0, none⟩ (by simp; omega)]; simp)
  have st := set61 t ⟨w.heap.size + 1 + 1 + 1 + 1, 0, none⟩ e old (((((w.alloc (.cells #[.pointer (some t)] 84)).alloc (.cells #[.pointer (some ⟨7, 84, none⟩), .pointer (some ⟨w.heap.size, 0, none⟩), .int .u64 150] 116)).alloc (.cells #[.pointer (some ⟨7, 84, none⟩), .pointer (some ⟨w.heap.size, 0, none⟩), .int .u64 150] 116)).alloc (.cells #[.string p, .iface 82 (.agg #[.int .i64 e])] 86)).alloc (.cells #[.int .i64 e] 82))
    (by rw [World.cell?_alloc_at _ _ _ _ (by simp)]; rfl)
    (by rw [World.cell?_alloc_lt _ _ t (by simp; omega), World.cell?_alloc_lt _ _ t (by simp; omega), World.cell?_alloc_lt _ _ t (by simp; omega), World.cell?_alloc_lt _ _ t (by simp; omega), World.cell?_alloc_lt _ _ t htl]; exact ht0)
    (by rw [World.frozen?_alloc_old _ _ t (by simp; omega), World.frozen?_alloc_old _ _ t (by simp; omega), World.frozen?_alloc_old _ _ t (by simp; omega), World.frozen?_alloc_old _ _ t (by simp; omega), World.frozen?_alloc_old _ _ t (Nat.ne_of_lt htl)]; exact hf0)
  go_enter Tryz.func56, Tryz.ntmps56
  go_wp2
  refine wp_loop_rounds 2 ?_
  rw [rounds_succ]
  go_wp2
  rw [rounds_succ]
  go_wp2
  go_ret
  exact ⟨rfl, rfl⟩
/-- A fault in a wrapper. -/
def inV (p : ByteArray) (c : Int) : Value := .iface 86 (.agg #[.string p, .iface 82 (.agg #[.int .i64 c])])
theorem within_c (p : ByteArray) (c : Int) (w : World) : Calls Tryz.prog 27 #[.string p, .iface 82 (.agg #[.int .i64 c])] w fun x w' => x = .returned (.iface 86 (.agg #[.string p, .iface 82 (.agg #[.int .i64 c])])) ∧ w = w' := by
  go_enter Tryz.func27, Tryz.ntmps27
  go_wp2
  go_ret
  exact ⟨rfl, rfl⟩
theorem within_nil (p : ByteArray) (w : World) : Calls Tryz.prog 27 #[.string p, .nilIface] w fun x w' => x = .returned .nilIface ∧ w = w' := by
  go_enter Tryz.func27, Tryz.ntmps27
  go_wp2
  go_ret
  exact ⟨rfl, rfl⟩
set_option maxRecDepth 100000 in
set_option maxHeartbeats 4000000 in
theorem no_in (w : World) (p : ByteArray) (c : Int) (hg : w.cell? ⟨0, 0, none⟩ = some (.iface 144 (.agg #[.pointer (some ⟨7, 47, none⟩)]))) :
    Calls Tryz.prog 26 #[.iface 86 (.agg #[.string p, .iface 82 (.agg #[.int .i64 c])])] w fun x w' => x = .returned (.int .i64 c) ∧ Below w.heap.size w w' := by
  have hg2 : (w.alloc (.cells #[.int .i64 0] 82)).cell? ⟨0, 0, none⟩ = some (.iface 144 (.agg #[.pointer (some ⟨7, 47, none⟩)])) := keep_alloc _ hg
  have HA := Lib.hid (as_in p c ⟨w.heap.size, 0, none⟩ (.int .i64 0) (w.alloc (.cells #[.int .i64 0] 82)) hg2 (by go_simp) (by go_simp))
  clear hg2 hg
  go_enter Tryz.func26, Tryz.ntmps26
  go_wp2_with fail
  refine HA.out.mono ?_
  rintro x w1 ⟨rfl, rfl⟩
  go_wp2
  go_ret
  exact ⟨rfl, bal (bal (bal (bal (bal (below_alloc _ _) _) _) _) _) _⟩
theorem no_nil (w : World) : Calls Tryz.prog 26 #[.nilIface] w fun x w' => x = .returned (.int .i64 0) ∧ w = w' := by
  go_enter Tryz.func26, Tryz.ntmps26
  go_wp2
  go_ret
  exact ⟨rfl, rfl⟩
end Go.Proofs.YtikpmkidfppknaaGreatDoor

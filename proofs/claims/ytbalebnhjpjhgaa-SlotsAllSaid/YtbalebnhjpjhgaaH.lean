/- slices.Clone over ints and bools; copies.Slots. -/
import Derived.Test.YtbalebnhjpjhgaaG
import Derived.OwnWalk
import Derived.Lib.SliceRun
import Derived.Laws.OwnMore
import Derived.Deep.AppendLies
namespace Go.Proofs.Ytbalebnhjpjhgaa
open Go.RowKit

theorem info3 : (Try.prog.info? 3).map (fun i => (i.zero, i.size, i.bytes)) = some (some (.int .i64 0), 1, 8) := by kernel_rfl
theorem info4 : (Try.prog.info? 4).map (fun i => (i.zero, i.size, i.bytes)) = some (some (.bool false), 1, 1) := by kernel_rfl
theorem add_at (b o j : Nat) : (⟨b, o, none⟩ : Addr).add j = ⟨b, o + j, none⟩ := by simp [Addr.add]
def intVs (zs : List Int) : List Value := zs.map (Value.int .i64)
def boolVs (us : List Bool) : List Value := us.map Value.bool
@[simp] theorem intVs_length (zs : List Int) : (intVs zs).length = zs.length := by simp [intVs]
@[simp] theorem boolVs_length (us : List Bool) : (boolVs us).length = us.length := by simp [boolVs]
/-- v owns the numbers zs, in a block from base on. -/
def OwnI (base : Nat) (w : World) (v : Value) (zs : List Int) : Prop := w.ownsRow base 3 1 v zs.length (intVs zs)
def OwnB (base : Nat) (w : World) (v : Value) (us : List Bool) : Prop := w.ownsRow base 4 1 v us.length (boolVs us)

theorem OwnI.form {base : Nat} {w : World} {v : Value} {zs : List Int} (h : OwnI base w v zs) : ∃ a c, v = .slice a zs.length c ∧ IntsAt w.heap.size w a zs := by
  rcases h.2 with ⟨rfl, hn⟩ | ⟨g, cap, cur, rfl, hb, hg, _⟩
  · exact ⟨none, 0, by rw [hn], fun i hi => by omega⟩
  · refine ⟨some ⟨g, 0, none⟩, cap, rfl, fun i hi => ⟨g, 0, rfl, (Array.getElem?_eq_some_iff.1 hg).1, ?_⟩⟩
    have := World.ownsRow.cellAt h i (by omega)
    rw [Nat.zero_add, this]
    simp [intVs, hi]
theorem OwnB.form {base : Nat} {w : World} {v : Value} {zs : List Bool} (h : OwnB base w v zs) : ∃ a c, v = .slice a zs.length c ∧ BoolsAt w.heap.size w a zs := by
  rcases h.2 with ⟨rfl, hn⟩ | ⟨g, cap, cur, rfl, hb, hg, _⟩
  · exact ⟨none, 0, by rw [hn], fun i hi => by omega⟩
  · refine ⟨some ⟨g, 0, none⟩, cap, rfl, fun i hi => ⟨g, 0, rfl, (Array.getElem?_eq_some_iff.1 hg).1, ?_⟩⟩
    have := World.ownsRow.cellAt h i (by omega)
    rw [Nat.zero_add, this]
    simp [boolVs, hi]

set_option maxRecDepth 100000 in
set_option maxHeartbeats 1000000 in
theorem clonI_any (a : Option Addr) (cap : Nat) (zs : List Int) (hlen : zs.length ≤ 1000) (w : World) (hI : IntsAt w.heap.size w a zs) :
    Calls Try.prog 47 #[.slice a zs.length cap] w fun e w' => ∃ v, e = .returned v ∧ OwnI w.heap.size w' v zs ∧ Below w.heap.size w w' := by
  cases a with
  | none =>
    have h0 : zs = [] := by
      match zs, hI with
      | [], _ => rfl
      | x :: l, hI => obtain ⟨b, off, e, _⟩ := hI 0 (by simp); cases e
    subst h0
    clear hI
    have heq := fun (w : World) (a : Option Addr) (l c : Nat) => Lib.run_eql_slice_nil (P := Try.prog) w 22 _ a l c 0 0 Try.underlying22
    go_enter Try.func47, Try.ntmps47
    go_wp2
    go_ret
    exact ⟨_, rfl, World.ownsRow_nil _ _ _ _, Below.refl _ _⟩
  | some ad =>
    obtain ⟨i0, hi0, hz0, hz1, hz2⟩ := info_parts info3
    have hn : ∀ X : Obj, ∀ j u, (intVs zs)[j]? = some u → (w.alloc X).cell? (ad.add j) = some u := fun X j u hj => by
      have hjl : j < zs.length := by have := (List.getElem?_eq_some_iff.1 hj).1; simpa using this
      obtain ⟨b, off, e, hb, hc⟩ := hI j hjl
      simp at e; subst e
      have he : u = Value.int .i64 zs[j] := by simpa [intVs, hjl] using hj.symm
      rw [add_at, he]
      exact keep_alloc X hc
    have h1c : ∀ u ∈ intVs zs, u.oneCell' = true := fun u hu => by
      obtain ⟨z, _, rfl⟩ := List.mem_map.1 hu
      rfl
    have hl : (intVs zs).length = zs.length * 1 := by simp
    have HN := Lib.hid hn
    have HC := Lib.hid h1c
    have HL := Lib.hid hl
    clear hn h1c hl hI
    generalize hM : zs.length = M at *
    have HM := Lib.hid hM
    clear hM
    have heq := fun (w : World) (a : Option Addr) (l c : Nat) => Lib.run_eql_slice_nil (P := Try.prog) w 22 _ a l c 0 0 Try.underlying22
    go_enter Try.func47, Try.ntmps47
    go_wp2_with (refine wpList_append_own_at _ rfl _ _ _ rfl w.heap.size 3 i0 _ 1 8 Try.underlying22 hi0 hz0 hz1 hz2 rfl (by omega) _ 0 [] rfl (World.ownsRow_lit w #[] 0 (Nat.le_refl _) (by simp [maxLen]) rfl) ad M cap (intVs zs) rfl HL.out (HN.out _) HC.out (by simp [maxLen]; omega) (by omega) (by simp) ?_; intro v1 w1 hown hgrow hnil hat)
    have HO := Lib.hid hown
    have HG := Lib.hid hgrow
    clear hown hgrow hnil hat
    go_wp2
    go_ret
    refine ⟨_, rfl, ?_, ?_⟩
    · have := HO.out
      rw [Nat.zero_add, List.nil_append, ← HM.out] at this
      exact this
    · exact ((Below.refl _ w).alloc (Nat.le_refl _) _).grown HG.out (by simp) (fun r e => Nat.le_of_eq (Option.some.inj e))

set_option maxRecDepth 100000 in
set_option maxHeartbeats 1000000 in
theorem clonB_any (a : Option Addr) (cap : Nat) (zs : List Bool) (hlen : zs.length ≤ 1000) (w : World) (hI : BoolsAt w.heap.size w a zs) :
    Calls Try.prog 48 #[.slice a zs.length cap] w fun e w' => ∃ v, e = .returned v ∧ OwnB w.heap.size w' v zs ∧ Below w.heap.size w w' := by
  cases a with
  | none =>
    have h0 : zs = [] := by
      match zs, hI with
      | [], _ => rfl
      | x :: l, hI => obtain ⟨b, off, e, _⟩ := hI 0 (by simp); cases e
    subst h0
    clear hI
    have heq := fun (w : World) (a : Option Addr) (l c : Nat) => Lib.run_eql_slice_nil (P := Try.prog) w 23 _ a l c 0 0 Try.underlying23
    go_enter Try.func48, Try.ntmps48
    go_wp2
    go_ret
    exact ⟨_, rfl, World.ownsRow_nil _ _ _ _, Below.refl _ _⟩
  | some ad =>
    obtain ⟨i0, hi0, hz0, hz1, hz2⟩ := info_parts info4
    have hn : ∀ X : Obj, ∀ j u, (boolVs zs)[j]? = some u → (w.alloc X).cell? (ad.add j) = some u := fun X j u hj => by
      have hjl : j < zs.length := by have := (List.getElem?_eq_some_iff.1 hj).1; simpa using this
      obtain ⟨b, off, e, hb, hc⟩ := hI j hjl
      simp at e; subst e
      have he : u = Value.bool zs[j] := by simpa [boolVs, hjl] using hj.symm
      rw [add_at, he]
      exact keep_alloc X hc
    have h1c : ∀ u ∈ boolVs zs, u.oneCell' = true := fun u hu => by
      obtain ⟨z, _, rfl⟩ := List.mem_map.1 hu
      rfl
    have hl : (boolVs zs).length = zs.length * 1 := by simp
    have HN := Lib.hid hn
    have HC := Lib.hid h1c
    have HL := Lib.hid hl
    clear hn h1c hl hI
    generalize hM : zs.length = M at *
    have HM := Lib.hid hM
    clear hM
    have heq := fun (w : World) (a : Option Addr) (l c : Nat) => Lib.run_eql_slice_nil (P := Try.prog) w 23 _ a l c 0 0 Try.underlying23
    go_enter Try.func48, Try.ntmps48
    go_wp2_with (refine wpList_append_own_at _ rfl _ _ _ rfl w.heap.size 4 i0 _ 1 1 Try.underlying23 hi0 hz0 hz1 hz2 rfl (by omega) _ 0 [] rfl (World.ownsRow_lit w #[] 0 (Nat.le_refl _) (by simp [maxLen]) rfl) ad M cap (boolVs zs) rfl HL.out (HN.out _) HC.out (by simp [maxLen]; omega) (by omega) (by simp) ?_; intro v1 w1 hown hgrow hnil hat)
    have HO := Lib.hid hown
    have HG := Lib.hid hgrow
    clear hown hgrow hnil hat
    go_wp2
    go_ret
    refine ⟨_, rfl, ?_, ?_⟩
    · have := HO.out
      rw [Nat.zero_add, List.nil_append, ← HM.out] at this
      exact this
    · exact ((Below.refl _ w).alloc (Nat.le_refl _) _).grown HG.out (by simp) (fun r e => Nat.le_of_eq (Option.some.inj e))
end Go.Proofs.Ytbalebnhjpjhgaa

/- N9G, N9H, N9I, N9J, N9K, N9L -/
import Derived.Test.YtbalebnhjpjhgaaZ0
import Derived.OwnWalk
import Derived.Lib.SliceRun
import Derived.Laws.OwnMore
import Derived.Deep.AppendLies
set_option linter.unusedVariables false
set_option linter.unusedSimpArgs false
/- check.All at the table's three checks; Right. -/
namespace Go.Proofs.Ytbalebnhjpjhgaa.L9
open Go.RowKit

/-- Slots in memory, below n₀. -/
structure SlotsAt (n₀ : Nat) (W : World) (a1 a2 a3 : Option Addr) (gs : List Int) (us : List Bool) (fs : List Int) : Prop where
  g : IntsAt n₀ W a1 gs
  u : BoolsAt n₀ W a2 us
  f : IntsAt n₀ W a3 fs
theorem SlotsAt.below {n₀ : Nat} {A B : World} (h : Below n₀ A B) {a1 a2 a3 : Option Addr} {gs : List Int} {us : List Bool} {fs : List Int} (k : SlotsAt n₀ A a1 a2 a3 gs us fs) : SlotsAt n₀ B a1 a2 a3 gs us fs := ⟨k.g.below h, k.u.below h, k.f.below h⟩
theorem SlotsAt.mono {n₀ m : Nat} (h : n₀ ≤ m) {W : World} {a1 a2 a3 : Option Addr} {gs : List Int} {us : List Bool} {fs : List Int} (k : SlotsAt n₀ W a1 a2 a3 gs us fs) : SlotsAt m W a1 a2 a3 gs us fs := ⟨k.g.mono h, k.u.mono h, k.f.mono h⟩
/-- Carried on to a later world, whole. -/
theorem SlotsAt.on {A B : World} (h : Below A.heap.size A B) {a1 a2 a3 : Option Addr} {gs : List Int} {us : List Bool} {fs : List Int} (k : SlotsAt A.heap.size A a1 a2 a3 gs us fs) : SlotsAt B.heap.size B a1 a2 a3 gs us fs := (k.below h).mono h.size

theorem free_any (a1 a2 a3 : Option Addr) (c1 c2 c3 : Nat) (gs : List Int) (us : List Bool) (fs : List Int) (hlu : us.length = gs.length) (hlf : fs.length ≤ gs.length) (hlen : gs.length ≤ 1000) (w : World) (h : SlotsAt w.heap.size w a1 a2 a3 gs us fs) :
    Calls Try.prog 30 #[tabV a1 a2 a3 c1 c2 c3 gs us fs] w fun e w' => e = .returned (.bool (freeB gs us fs)) ∧ Below w.heap.size w w' :=
  (callsIn_wide (n := 5)).1 (hasFree_in Fence.wide 5 trivial trivial trivial trivial trivial trivial rfl (Nat.le_refl _) a1 a2 a3 c1 c2 c3 gs us fs hlu hlf hlen w h.g h.u h.f)

theorem sizes_of {gs : List Int} {us : List Bool} {fs : List Int} (h : sizesB gs us fs = true) : 1 ≤ gs.length ∧ gs.length ≤ 64 ∧ us.length = gs.length ∧ fs.length ≤ gs.length := of_decide_eq_true h

set_option maxRecDepth 100000 in
set_option maxHeartbeats 1000000 in
theorem all3_any (a1 a2 a3 : Option Addr) (c1 c2 c3 bS : Nat) (gs : List Int) (us : List Bool) (fs : List Int) (w : World) (h : SlotsAt w.heap.size w a1 a2 a3 gs us fs)
    (k0 : w.cell? ⟨bS, 0, none⟩ = some (.func (.func 28) #[tabV a1 a2 a3 c1 c2 c3 gs us fs] #[])) (k1 : w.cell? ⟨bS, 1, none⟩ = some (.func (.func 29) #[tabV a1 a2 a3 c1 c2 c3 gs us fs] #[])) (k2 : w.cell? ⟨bS, 2, none⟩ = some (.func (.func 30) #[tabV a1 a2 a3 c1 c2 c3 gs us fs] #[])) :
    Calls Try.prog 27 #[.slice (some ⟨bS, 0, none⟩) 3 3] w fun e w' => e = .returned (.bool (rightB gs us fs)) ∧ Below w.heap.size w w' := by
  have hz := blt k0
  unfold rightB
  cases hs : sizesB gs us fs with
  | false =>
    have H1 := Lib.hid (fun w => sizes_any a1 a2 a3 c1 c2 c3 gs us fs w)
    rw [hs] at H1
    rw [Bool.false_and, Bool.false_and]
    generalize tabV a1 a2 a3 c1 c2 c3 gs us fs = T at *
    clear h hs
    go_enter Try.func27, Try.ntmps27
    go_wp2
    refine wp_loop_rounds 3 ?_
    rw [rounds_succ]
    go_wp2_with (go_at_call 28; refine (H1.out _).mono ?_; rintro e w1 ⟨rfl, hb1⟩)
    go_ret
    exact ⟨rfl, hb1⟩
  | true =>
    obtain ⟨l1, l2, l3, l4⟩ := sizes_of hs
    have H1 := Lib.hid (fun w => sizes_any a1 a2 a3 c1 c2 c3 gs us fs w)
    have H2 := Lib.hid (fun w hI => gens_any a1 (.slice a2 us.length c2) (.slice a3 fs.length c3) c1 gs.length gs rfl l2 l1 w hI)
    have H3 := Lib.hid (fun w hI => free_any a1 a2 a3 c1 c2 c3 gs us fs l3 l4 (by omega) w hI)
    rw [hs] at H1
    rw [Bool.true_and]
    have hT : (.agg #[.slice a1 gs.length c1, .slice a2 us.length c2, .slice a3 fs.length c3] : Value) = tabV a1 a2 a3 c1 c2 c3 gs us fs := rfl
    rw [hT] at H2
    generalize tabV a1 a2 a3 c1 c2 c3 gs us fs = T at *
    have HS := Lib.hid h
    clear h hs hT l1 l2 l3 l4
    cases hg : gensB gs with
    | false =>
      rw [hg] at H2
      rw [Bool.false_and]
      clear hg
      go_enter Try.func27, Try.ntmps27
      go_wp2
      refine wp_loop_rounds 3 ?_
      rw [rounds_succ]
      go_wp2_with (go_at_call 28; refine (H1.out _).mono ?_; rintro e w1 ⟨rfl, hb1⟩; obtain ⟨hc1, hf1⟩ := bcell hb1)
      rw [rounds_succ]
      go_wp2_with (go_at_call 29; refine (H2.out _ (HS.out.on hb1).g).mono ?_; rintro e w2 ⟨rfl, hb2⟩)
      go_ret
      exact ⟨rfl, hb1.trans (hb2.mono hb1.size)⟩
    | true =>
      rw [hg] at H2
      rw [Bool.true_and]
      clear hg
      cases hf : freeB gs us fs with
      | false =>
        rw [hf] at H3
        clear hf
        go_enter Try.func27, Try.ntmps27
        go_wp2
        refine wp_loop_rounds 4 ?_
        rw [rounds_succ]
        go_wp2_with (go_at_call 28; refine (H1.out _).mono ?_; rintro e w1 ⟨rfl, hb1⟩; obtain ⟨hc1, hf1⟩ := bcell hb1; have hz1 : bS < w1.heap.size := Nat.lt_of_lt_of_le hz hb1.size)
        rw [rounds_succ]
        go_wp2_with (go_at_call 29; refine (H2.out _ (HS.out.on hb1).g).mono ?_; rintro e w2 ⟨rfl, hb2⟩; obtain ⟨hc2, hf2⟩ := bcell hb2)
        rw [rounds_succ]
        go_wp2_with (go_at_call 30; refine (H3.out _ ((HS.out.on hb1).on hb2)).mono ?_; rintro e w3 ⟨rfl, hb3⟩)
        go_ret
        exact ⟨rfl, (hb1.trans (hb2.mono hb1.size)).trans (hb3.mono (Nat.le_trans hb1.size hb2.size))⟩
      | true =>
        rw [hf] at H3
        clear hf
        go_enter Try.func27, Try.ntmps27
        go_wp2
        refine wp_loop_rounds 4 ?_
        rw [rounds_succ]
        go_wp2_with (go_at_call 28; refine (H1.out _).mono ?_; rintro e w1 ⟨rfl, hb1⟩; obtain ⟨hc1, hf1⟩ := bcell hb1; have hz1 : bS < w1.heap.size := Nat.lt_of_lt_of_le hz hb1.size)
        rw [rounds_succ]
        go_wp2_with (go_at_call 29; refine (H2.out _ (HS.out.on hb1).g).mono ?_; rintro e w2 ⟨rfl, hb2⟩; obtain ⟨hc2, hf2⟩ := bcell hb2)
        rw [rounds_succ]
        go_wp2_with (go_at_call 30; refine (H3.out _ ((HS.out.on hb1).on hb2)).mono ?_; rintro e w3 ⟨rfl, hb3⟩)
        rw [rounds_succ]
        go_wp2
        go_ret
        exact ⟨rfl, (hb1.trans (hb2.mono hb1.size)).trans (hb3.mono (Nat.le_trans hb1.size hb2.size))⟩

set_option maxRecDepth 100000 in
set_option maxHeartbeats 1000000 in
theorem right_any (a1 a2 a3 : Option Addr) (c1 c2 c3 : Nat) (gs : List Int) (us : List Bool) (fs : List Int) (w : World) (h : SlotsAt w.heap.size w a1 a2 a3 gs us fs) :
    Calls Try.prog 14 #[tabV a1 a2 a3 c1 c2 c3 gs us fs] w fun e w' => e = .returned (.bool (rightB gs us fs)) ∧ Below w.heap.size w w' := by
  have H := Lib.hid (fun bS w hS k0 k1 k2 => all3_any a1 a2 a3 c1 c2 c3 bS gs us fs w hS k0 k1 k2)
  unfold tabV at *
  have HS := Lib.hid h
  clear h
  go_enter Try.func14, Try.ntmps14
  go_wp2_with fail
  refine (H.out _ _ ?_ ?_ ?_ ?_).mono ?_
  · exact HS.out.on ((((Below.refl _ _).alloc (Nat.le_refl _) _).alloc (by simp) _).alloc (by simp; omega) _)
  · go_simp
  · go_simp
  · go_simp
  rintro e w1 ⟨rfl, hb1⟩
  go_wp2
  go_ret
  exact ⟨rfl, ((((Below.refl _ _).alloc (Nat.le_refl _) _).alloc (by simp) _).alloc (by simp; omega) _).trans (hb1.mono (by simp; omega))⟩
end Go.Proofs.Ytbalebnhjpjhgaa.L9

/- slices.Clone over ints and bools; copies.Slots. -/
namespace Go.Proofs.Ytbalebnhjpjhgaa.L9
open Go.RowKit

theorem info3 : (Try.prog.info? 3).map (fun i => (i.zero, i.size, i.bytes)) = some (some (.int .i64 0), 1, 8) := by kernel_rfl
theorem info4 : (Try.prog.info? 4).map (fun i => (i.zero, i.size, i.bytes)) = some (some (.bool false), 1, 1) := by kernel_rfl
theorem add_at (b o j : Nat) : (⟨b, o, none⟩ : Addr).add j = ⟨b, o + j, none⟩ := by simp [Addr.add]
def intVs (zs : List Int) : List Value := zs.map (Value.int .i64)
def boolVs (us : List Bool) : List Value := us.map Value.bool
@[simp] theorem intVs_length (zs : List Int) : (intVs zs).length = zs.length := by simp [intVs]
@[simp] theorem boolVs_length (us : List Bool) : (boolVs us).length = us.length := by simp [boolVs]
/-- v owns the numbers zs, in a block from base on. -/
def OwnI (base : Nat) (w : World) (v : Value) (zs : List Int) : Prop := w.ownsRow base 3 1 v zs.length (intVs zs)
def OwnB (base : Nat) (w : World) (v : Value) (us : List Bool) : Prop := w.ownsRow base 4 1 v us.length (boolVs us)

theorem OwnI.form {base : Nat} {w : World} {v : Value} {zs : List Int} (h : OwnI base w v zs) : ∃ a c, v = .slice a zs.length c ∧ IntsAt w.heap.size w a zs := by
  rcases h.2 with ⟨rfl, hn⟩ | ⟨g, cap, cur, rfl, hb, hg, _⟩
  · exact ⟨none, 0, by rw [hn], fun i hi => by omega⟩
  · refine ⟨some ⟨g, 0, none⟩, cap, rfl, fun i hi => ⟨g, 0, rfl, (Array.getElem?_eq_some_iff.1 hg).1, ?_⟩⟩
    have := World.ownsRow.cellAt h i (by omega)
    rw [Nat.zero_add, this]
    simp [intVs, hi]
theorem OwnB.form {base : Nat} {w : World} {v : Value} {zs : List Bool} (h : OwnB base w v zs) : ∃ a c, v = .slice a zs.length c ∧ BoolsAt w.heap.size w a zs := by
  rcases h.2 with ⟨rfl, hn⟩ | ⟨g, cap, cur, rfl, hb, hg, _⟩
  · exact ⟨none, 0, by rw [hn], fun i hi => by omega⟩
  · refine ⟨some ⟨g, 0, none⟩, cap, rfl, fun i hi => ⟨g, 0, rfl, (Array.getElem?_eq_some_iff.1 hg).1, ?_⟩⟩
    have := World.ownsRow.cellAt h i (by omega)
    rw [Nat.zero_add, this]
    simp [boolVs, hi]

set_option maxRecDepth 100000 in
set_option maxHeartbeats 1000000 in
theorem clonI_any (a : Option Addr) (cap : Nat) (zs : List Int) (hlen : zs.length ≤ 1000) (w : World) (hI : IntsAt w.heap.size w a zs) :
    Calls Try.prog 47 #[.slice a zs.length cap] w fun e w' => ∃ v, e = .returned v ∧ OwnI w.heap.size w' v zs ∧ Below w.heap.size w w' := by
  cases a with
  | none =>
    have h0 : zs = [] := by
      match zs, hI with
      | [], _ => rfl
      | x :: l, hI => obtain ⟨b, off, e, _⟩ := hI 0 (by simp); cases e
    subst h0
    clear hI
    have heq := fun (w : World) (a : Option Addr) (l c : Nat) => Lib.run_eql_slice_nil (P := Try.prog) w 22 _ a l c 0 0 Try.underlying22
    go_enter Try.func47, Try.ntmps47
    go_wp2
    go_ret
    exact ⟨_, rfl, World.ownsRow_nil _ _ _ _, Below.refl _ _⟩
  | some ad =>
    obtain ⟨i0, hi0, hz0, hz1, hz2⟩ := info_parts info3
    have hn : ∀ X : Obj, ∀ j u, (intVs zs)[j]? = some u → (w.alloc X).cell? (ad.add j) = some u := fun X j u hj => by
      have hjl : j < zs.length := by have := (List.getElem?_eq_some_iff.1 hj).1; simpa using this
      obtain ⟨b, off, e, hb, hc⟩ := hI j hjl
      simp at e; subst e
      have he : u = Value.int .i64 zs[j] := by simpa [intVs, hjl] using hj.symm
      rw [add_at, he]
      exact keep_alloc X hc
    have h1c : ∀ u ∈ intVs zs, u.oneCell' = true := fun u hu => by
      obtain ⟨z, _, rfl⟩ := List.mem_map.1 hu
      rfl
    have hl : (intVs zs).length = zs.length * 1 := by simp
    have HN := Lib.hid hn
    have HC := Lib.hid h1c
    have HL := Lib.hid hl
    clear hn h1c hl hI
    generalize hM : zs.length = M at *
    have HM := Lib.hid hM
    clear hM
    have heq := fun (w : World) (a : Option Addr) (l c : Nat) => Lib.run_eql_slice_nil (P := Try.prog) w 22 _ a l c 0 0 Try.underlying22
    go_enter Try.func47, Try.ntmps47
    go_wp2_with (refine wpList_append_own_at _ rfl _ _ _ rfl w.heap.size 3 i0 _ 1 8 Try.underlying22 hi0 hz0 hz1 hz2 rfl (by omega) _ 0 [] rfl (World.ownsRow_lit w #[] 0 (Nat.le_refl _) (by simp [maxLen]) rfl) ad M cap (intVs zs) rfl HL.out (HN.out _) HC.out (by simp [maxLen]; omega) (by omega) (by simp) ?_; intro v1 w1 hown hgrow hnil hat)
    have HO := Lib.hid hown
    have HG := Lib.hid hgrow
    clear hown hgrow hnil hat
    go_wp2
    go_ret
    refine ⟨_, rfl, ?_, ?_⟩
    · have := HO.out
      rw [Nat.zero_add, List.nil_append, ← HM.out] at this
      exact this
    · exact ((Below.refl _ w).alloc (Nat.le_refl _) _).grown HG.out (by simp) (fun r e => Nat.le_of_eq (Option.some.inj e))

set_option maxRecDepth 100000 in
set_option maxHeartbeats 1000000 in
theorem clonB_any (a : Option Addr) (cap : Nat) (zs : List Bool) (hlen : zs.length ≤ 1000) (w : World) (hI : BoolsAt w.heap.size w a zs) :
    Calls Try.prog 48 #[.slice a zs.length cap] w fun e w' => ∃ v, e = .returned v ∧ OwnB w.heap.size w' v zs ∧ Below w.heap.size w w' := by
  cases a with
  | none =>
    have h0 : zs = [] := by
      match zs, hI with
      | [], _ => rfl
      | x :: l, hI => obtain ⟨b, off, e, _⟩ := hI 0 (by simp); cases e
    subst h0
    clear hI
    have heq := fun (w : World) (a : Option Addr) (l c : Nat) => Lib.run_eql_slice_nil (P := Try.prog) w 23 _ a l c 0 0 Try.underlying23
    go_enter Try.func48, Try.ntmps48
    go_wp2
    go_ret
    exact ⟨_, rfl, World.ownsRow_nil _ _ _ _, Below.refl _ _⟩
  | some ad =>
    obtain ⟨i0, hi0, hz0, hz1, hz2⟩ := info_parts info4
    have hn : ∀ X : Obj, ∀ j u, (boolVs zs)[j]? = some u → (w.alloc X).cell? (ad.add j) = some u := fun X j u hj => by
      have hjl : j < zs.length := by have := (List.getElem?_eq_some_iff.1 hj).1; simpa using this
      obtain ⟨b, off, e, hb, hc⟩ := hI j hjl
      simp at e; subst e
      have he : u = Value.bool zs[j] := by simpa [boolVs, hjl] using hj.symm
      rw [add_at, he]
      exact keep_alloc X hc
    have h1c : ∀ u ∈ boolVs zs, u.oneCell' = true := fun u hu => by
      obtain ⟨z, _, rfl⟩ := List.mem_map.1 hu
      rfl
    have hl : (boolVs zs).length = zs.length * 1 := by simp
    have HN := Lib.hid hn
    have HC := Lib.hid h1c
    have HL := Lib.hid hl
    clear hn h1c hl hI
    generalize hM : zs.length = M at *
    have HM := Lib.hid hM
    clear hM
    have heq := fun (w : World) (a : Option Addr) (l c : Nat) => Lib.run_eql_slice_nil (P := Try.prog) w 23 _ a l c 0 0 Try.underlying23
    go_enter Try.func48, Try.ntmps48
    go_wp2_with (refine wpList_append_own_at _ rfl _ _ _ rfl w.heap.size 4 i0 _ 1 1 Try.underlying23 hi0 hz0 hz1 hz2 rfl (by omega) _ 0 [] rfl (World.ownsRow_lit w #[] 0 (Nat.le_refl _) (by simp [maxLen]) rfl) ad M cap (boolVs zs) rfl HL.out (HN.out _) HC.out (by simp [maxLen]; omega) (by omega) (by simp) ?_; intro v1 w1 hown hgrow hnil hat)
    have HO := Lib.hid hown
    have HG := Lib.hid hgrow
    clear hown hgrow hnil hat
    go_wp2
    go_ret
    refine ⟨_, rfl, ?_, ?_⟩
    · have := HO.out
      rw [Nat.zero_add, List.nil_append, ← HM.out] at this
      exact this
    · exact ((Below.refl _ w).alloc (Nat.le_refl _) _).grown HG.out (by simp) (fun r e => Nat.le_of_eq (Option.some.inj e))
end Go.Proofs.Ytbalebnhjpjhgaa.L9

/- copies.Slots. -/
namespace Go.Proofs.Ytbalebnhjpjhgaa.L9
open Go.RowKit
theorem OwnI.on {base : Nat} {W W' : World} {v : Value} {zs : List Int} (h : OwnI base W v zs) (hb : Below W.heap.size W W') : OwnI base W' v zs := h.kept (grown_of_below hb) (by cases v.ownBlock <;> simp)
theorem OwnB.on {base : Nat} {W W' : World} {v : Value} {zs : List Bool} (h : OwnB base W v zs) (hb : Below W.heap.size W W') : OwnB base W' v zs := h.kept (grown_of_below hb) (by cases v.ownBlock <;> simp)

theorem OwnI.set {base : Nat} {W : World} {v x : Value} {zs : List Int} {B o : Nat} (h : OwnI base W v zs) (hB : B < base) : OwnI base (W.setCell ⟨B, o, none⟩ x) v zs := h.kept (grownBy_setCell _ _ _ _) (.inr fun e => by have := (h.lt B e).1; omega)
theorem OwnB.set {base : Nat} {W : World} {v x : Value} {zs : List Bool} {B o : Nat} (h : OwnB base W v zs) (hB : B < base) : OwnB base (W.setCell ⟨B, o, none⟩ x) v zs := h.kept (grownBy_setCell _ _ _ _) (.inr fun e => by have := (h.lt B e).1; omega)
theorem OwnI.mono {base base' : Nat} {W : World} {v : Value} {zs : List Int} (h : OwnI base W v zs) (hb : base' ≤ base) : OwnI base' W v zs := ⟨h.1, h.2.imp id fun ⟨g, cap, cur, hv, hb', rest⟩ => ⟨g, cap, cur, hv, Nat.le_trans hb hb', rest⟩⟩
theorem OwnB.mono {base base' : Nat} {W : World} {v : Value} {zs : List Bool} (h : OwnB base W v zs) (hb : base' ≤ base) : OwnB base' W v zs := ⟨h.1, h.2.imp id fun ⟨g, cap, cur, hv, hb', rest⟩ => ⟨g, cap, cur, hv, Nat.le_trans hb hb', rest⟩⟩

/-- What a call finds and leaves: the three cells of block B; what lay below n is as it was. -/
def Held (n B : Nat) (s1 s2 s3 : Value) (U W : World) : Prop := W.cell? ⟨B, 0, none⟩ = some s1 ∧ W.cell? ⟨B, 1, none⟩ = some s2 ∧ W.cell? ⟨B, 2, none⟩ = some s3 ∧ Below n U W
theorem Held.on {n B : Nat} {s1 s2 s3 : Value} {U W W' : World} (h : Held n B s1 s2 s3 U W) (hn : n ≤ W.heap.size) (hb : Below W.heap.size W W') : Held n B s1 s2 s3 U W' :=
  ⟨(hb.cell (p := ⟨B, 0, none⟩) (blt h.1)).trans h.1, (hb.cell (p := ⟨B, 1, none⟩) (blt h.1)).trans h.2.1, (hb.cell (p := ⟨B, 2, none⟩) (blt h.1)).trans h.2.2.1, h.2.2.2.trans (hb.mono hn)⟩

theorem clonI_held (n B : Nat) (s1 s2 s3 : Value) (a : Option Addr) (cap : Nat) (zs : List Int) (hlen : zs.length ≤ 1000) (U W : World) (hn : n ≤ U.heap.size) (hI : IntsAt n U a zs)
    (k0 : W.cell? ⟨B, 0, none⟩ = some s1) (k1 : W.cell? ⟨B, 1, none⟩ = some s2) (k2 : W.cell? ⟨B, 2, none⟩ = some s3) (hb : Below n U W) :
    Calls Try.prog 47 #[.slice a zs.length cap] W fun e W' => ∃ a' c', e = .returned (.slice a' zs.length c') ∧ W'.cell? ⟨B, 0, none⟩ = some s1 ∧ W'.cell? ⟨B, 1, none⟩ = some s2 ∧ W'.cell? ⟨B, 2, none⟩ = some s3 ∧ Below n U W' ∧ OwnI W.heap.size W' (.slice a' zs.length c') zs ∧ Below W.heap.size W W' := by
  refine (clonI_any a cap zs hlen W ((hI.below hb).mono (Nat.le_trans hn hb.size))).mono ?_
  rintro e W' ⟨v, rfl, ho, hB⟩
  obtain ⟨a', c', rfl, _⟩ := ho.form
  obtain ⟨q0, q1, q2, q3⟩ := Held.on (U := U) (n := n) ⟨k0, k1, k2, hb⟩ (Nat.le_trans hn hb.size) hB
  exact ⟨a', c', rfl, q0, q1, q2, q3, ho, hB⟩
theorem clonB_held (n B : Nat) (s1 s2 s3 : Value) (a : Option Addr) (cap : Nat) (zs : List Bool) (hlen : zs.length ≤ 1000) (U W : World) (hn : n ≤ U.heap.size) (hI : BoolsAt n U a zs)
    (k0 : W.cell? ⟨B, 0, none⟩ = some s1) (k1 : W.cell? ⟨B, 1, none⟩ = some s2) (k2 : W.cell? ⟨B, 2, none⟩ = some s3) (hb : Below n U W) :
    Calls Try.prog 48 #[.slice a zs.length cap] W fun e W' => ∃ a' c', e = .returned (.slice a' zs.length c') ∧ W'.cell? ⟨B, 0, none⟩ = some s1 ∧ W'.cell? ⟨B, 1, none⟩ = some s2 ∧ W'.cell? ⟨B, 2, none⟩ = some s3 ∧ Below n U W' ∧ OwnB W.heap.size W' (.slice a' zs.length c') zs ∧ Below W.heap.size W W' := by
  refine (clonB_any a cap zs hlen W ((hI.below hb).mono (Nat.le_trans hn hb.size))).mono ?_
  rintro e W' ⟨v, rfl, ho, hB⟩
  obtain ⟨a', c', rfl, _⟩ := ho.form
  obtain ⟨q0, q1, q2, q3⟩ := Held.on (U := U) (n := n) ⟨k0, k1, k2, hb⟩ (Nat.le_trans hn hb.size) hB
  exact ⟨a', c', rfl, q0, q1, q2, q3, ho, hB⟩
theorem held_drew {n B : Nat} {s1 s2 s3 : Value} {U W : World} (k0 : W.cell? ⟨B, 0, none⟩ = some s1) (k1 : W.cell? ⟨B, 1, none⟩ = some s2) (k2 : W.cell? ⟨B, 2, none⟩ = some s3) (hb : Below n U W) :
    W.drew.cell? ⟨B, 0, none⟩ = some s1 ∧ W.drew.cell? ⟨B, 1, none⟩ = some s2 ∧ W.drew.cell? ⟨B, 2, none⟩ = some s3 ∧ Below n U W.drew := ⟨k0, k1, k2, below_drew hb⟩
theorem held_stay {n B : Nat} {s1 s2 s3 : Value} {U W : World} (k0 : W.cell? ⟨B, 0, none⟩ = some s1) (k1 : W.cell? ⟨B, 1, none⟩ = some s2) (k2 : W.cell? ⟨B, 2, none⟩ = some s3) (hb : Below n U W) :
    W.cell? ⟨B, 0, none⟩ = some s1 ∧ W.cell? ⟨B, 1, none⟩ = some s2 ∧ W.cell? ⟨B, 2, none⟩ = some s3 ∧ Below n U W := ⟨k0, k1, k2, hb⟩
theorem held_set {n B B2 : Nat} {s1 s2 s3 v1 v2 v3 : Value} {U W : World} (k0 : W.cell? ⟨B, 0, none⟩ = some s1) (k1 : W.cell? ⟨B, 1, none⟩ = some s2) (k2 : W.cell? ⟨B, 2, none⟩ = some s3) (hb : Below n U W) (hn : n ≤ B2) (hne : B ≠ B2) :
    (((W.setCell ⟨B2, 0, none⟩ v1).setCell ⟨B2, 1, none⟩ v2).setCell ⟨B2, 2, none⟩ v3).cell? ⟨B, 0, none⟩ = some s1 ∧ (((W.setCell ⟨B2, 0, none⟩ v1).setCell ⟨B2, 1, none⟩ v2).setCell ⟨B2, 2, none⟩ v3).cell? ⟨B, 1, none⟩ = some s2 ∧ (((W.setCell ⟨B2, 0, none⟩ v1).setCell ⟨B2, 1, none⟩ v2).setCell ⟨B2, 2, none⟩ v3).cell? ⟨B, 2, none⟩ = some s3 ∧
    Below n U (((W.setCell ⟨B2, 0, none⟩ v1).setCell ⟨B2, 1, none⟩ v2).setCell ⟨B2, 2, none⟩ v3) :=
  ⟨(set_other _ _ hne).trans ((set_other _ _ hne).trans ((set_other _ _ hne).trans k0)), (set_other _ _ hne).trans ((set_other _ _ hne).trans ((set_other _ _ hne).trans k1)), (set_other _ _ hne).trans ((set_other _ _ hne).trans ((set_other _ _ hne).trans k2)),
    ((hb.setCell (p := ⟨B2, 0, none⟩) hn _).setCell (p := ⟨B2, 1, none⟩) hn _).setCell (p := ⟨B2, 2, none⟩) hn _⟩

set_option maxRecDepth 100000 in
set_option maxHeartbeats 4000000 in
theorem copy_any (a1 a2 a3 : Option Addr) (c1 c2 c3 : Nat) (gs : List Int) (us : List Bool) (fs : List Int) (hg : gs.length ≤ 1000) (hu : us.length ≤ 1000) (hf : fs.length ≤ 1000) (w : World) (h : SlotsAt w.heap.size w a1 a2 a3 gs us fs) :
    Calls Try.prog 39 #[tabV a1 a2 a3 c1 c2 c3 gs us fs] w fun e w' => ∃ v1 v2 v3, e = .returned (.agg #[v1, v2, v3]) ∧ OwnI w.heap.size w' v1 gs ∧ OwnB w.heap.size w' v2 us ∧ OwnI w.heap.size w' v3 fs ∧ (∀ b, v1.ownBlock = some b → v3.ownBlock ≠ some b) ∧ Below w.heap.size w w' := by
  have H1 := Lib.hid (fun B s1 s2 s3 U W hn hI k0 k1 k2 hb => clonI_held w.heap.size B s1 s2 s3 a1 c1 gs hg U W hn hI k0 k1 k2 hb)
  have H2 := Lib.hid (fun B s1 s2 s3 U W hn hI k0 k1 k2 hb => clonB_held w.heap.size B s1 s2 s3 a2 c2 us hu U W hn hI k0 k1 k2 hb)
  have H3 := Lib.hid (fun B s1 s2 s3 U W hn hI k0 k1 k2 hb => clonI_held w.heap.size B s1 s2 s3 a3 c3 fs hf U W hn hI k0 k1 k2 hb)
  unfold tabV
  have HS := Lib.hid h
  clear h
  generalize gs.length = L1 at *
  generalize us.length = L2 at *
  generalize fs.length = L3 at *
  go_enter Try.func39, Try.ntmps39
  go_wp2
  obtain ⟨U, hU⟩ : ∃ U, U = ((w.alloc (Obj.cells #[Value.slice a1 L1 c1, Value.slice a2 L2 c2, Value.slice a3 L3 c3] 25)).alloc (Obj.cells #[Value.slice none 0 0, Value.slice none 0 0, Value.slice none 0 0] 25)) := ⟨_, rfl⟩
  rw [← hU]
  have hB : Below w.heap.size w U := by rw [hU]; exact ((Below.refl _ _).alloc (Nat.le_refl _) _).alloc (by simp) _
  have hz : U.heap.size = w.heap.size + 2 := by rw [hU]; simp
  have k0 : U.cell? ⟨w.heap.size, 0, none⟩ = some (.slice a1 L1 c1) := by rw [hU]; go_simp
  have k1 : U.cell? ⟨w.heap.size, 1, none⟩ = some (.slice a2 L2 c2) := by rw [hU]; go_simp
  have k2 : U.cell? ⟨w.heap.size, 2, none⟩ = some (.slice a3 L3 c3) := by rw [hU]; go_simp
  have e0 : U.cell? ⟨w.heap.size + 1, 0, none⟩ = some (.slice none 0 0) := by rw [hU]; go_simp
  have e1 : U.cell? ⟨w.heap.size + 1, 1, none⟩ = some (.slice none 0 0) := by rw [hU]; go_simp
  have e2 : U.cell? ⟨w.heap.size + 1, 2, none⟩ = some (.slice none 0 0) := by rw [hU]; go_simp
  have f0 : U.frozen? ⟨w.heap.size + 1, 0, none⟩ = false := by rw [hU]; go_simp
  have f1 : U.frozen? ⟨w.heap.size + 1, 1, none⟩ = false := by rw [hU]; go_simp
  have f2 : U.frozen? ⟨w.heap.size + 1, 2, none⟩ = false := by rw [hU]; go_simp
  have hlt2 : w.heap.size + 1 < U.heap.size := by omega
  have G1 := Lib.hid (fun B s1 s2 s3 W k0 k1 k2 hb => H1.out B s1 s2 s3 U W (by omega) (HS.out.below hB).g k0 k1 k2 hb)
  have G2 := Lib.hid (fun B s1 s2 s3 W k0 k1 k2 hb => H2.out B s1 s2 s3 U W (by omega) (HS.out.below hB).u k0 k1 k2 hb)
  have G3 := Lib.hid (fun B s1 s2 s3 W k0 k1 k2 hb => H3.out B s1 s2 s3 U W (by omega) (HS.out.below hB).f k0 k1 k2 hb)
  have hUU : Below w.heap.size U U := Below.refl _ _
  clear hU H1 H2 H3
  go_region_held3 (fun w' => w'.cell? ⟨w.heap.size, 0, none⟩ = some (.slice a1 L1 c1) ∧ w'.cell? ⟨w.heap.size, 1, none⟩ = some (.slice a2 L2 c2) ∧ w'.cell? ⟨w.heap.size, 2, none⟩ = some (.slice a3 L3 c3) ∧ Below w.heap.size U w')
    (first | assumption | (go_split_ands; (try dsimp only); first | exact held_stay (by assumption) (by assumption) (by assumption) (by assumption) | exact held_drew (by assumption) (by assumption) (by assumption) (by assumption) | exact held_set (by assumption) (by assumption) (by assumption) (by assumption) (by omega) (by omega)))
    ((first
      | (go_at_call 47; go_split_ands; refine (G1.out _ _ _ _ _ (by assumption) (by assumption) (by assumption) (by assumption)).mono ?_; rintro e w1 ⟨b1, d1, rfl, p0, p1, p2, pb, po, pB⟩; obtain ⟨hc1, hf1⟩ := bcell pB; have hz1 := pB.size; (try simp at hz1); (have hy1 : w.heap.size + 1 < w1.heap.size := by omega); clear G1)
      | (go_at_call 48; go_split_ands; refine (G2.out _ _ _ _ _ (by assumption) (by assumption) (by assumption) (by assumption)).mono ?_; rintro e w2 ⟨b2, d2, rfl, q0, q1, q2, qb, qo, qB⟩; obtain ⟨hc2, hf2⟩ := bcell qB; have hz2 := qB.size; (try simp at hz2); (have hy2 : w.heap.size + 1 < w2.heap.size := by omega); clear G2)
      | (go_at_call 47; go_split_ands; refine (G3.out _ _ _ _ _ (by assumption) (by assumption) (by assumption) (by assumption)).mono ?_; rintro e w3 ⟨b3, d3, rfl, r0, r1, r2, rb, ro, rB⟩; obtain ⟨hc3, hf3⟩ := bcell rB; have hz3 := rB.size; (try simp at hz3); (have hy3 : w.heap.size + 1 < w3.heap.size := by omega); clear G3)))
  have hzd : U.drew.heap.size = U.heap.size := rfl
  have hd : ∀ b, Value.ownBlock (.slice b1 L1 d1) = some b → Value.ownBlock (.slice b3 L3 d3) ≠ some b := fun b e1 e3 => by
    have x1 := (po.lt b e1).2
    have x3 := (ro.lt b e3).1
    omega
  have o1 := ((po.on (qB.trans (rB.mono hz2))).set (B := w.heap.size + 1) (o := 0) (x := .slice b1 L1 d1) (by omega)).set (B := w.heap.size + 1) (o := 1) (x := .slice b2 L2 d2) (by omega) |>.set (B := w.heap.size + 1) (o := 2) (x := .slice b3 L3 d3) (by omega)
  have o2 := ((qo.on rB).set (B := w.heap.size + 1) (o := 0) (x := .slice b1 L1 d1) (by omega)).set (B := w.heap.size + 1) (o := 1) (x := .slice b2 L2 d2) (by omega) |>.set (B := w.heap.size + 1) (o := 2) (x := .slice b3 L3 d3) (by omega)
  have o3 := (ro.set (B := w.heap.size + 1) (o := 0) (x := .slice b1 L1 d1) (by omega)).set (B := w.heap.size + 1) (o := 1) (x := .slice b2 L2 d2) (by omega) |>.set (B := w.heap.size + 1) (o := 2) (x := .slice b3 L3 d3) (by omega)
  rename_i hHeld
  have hbe := hB.trans hHeld.2.2.2
  have j0 : w3.cell? ⟨w.heap.size + 1, 0, none⟩ = some (.slice none 0 0) := (hc3 _ _ hy2).trans ((hc2 _ _ hy1).trans ((hc1 _ _ hlt2).trans e0))
  have j1 : w3.cell? ⟨w.heap.size + 1, 1, none⟩ = some (.slice none 0 0) := (hc3 _ _ hy2).trans ((hc2 _ _ hy1).trans ((hc1 _ _ hlt2).trans e1))
  have j2 : w3.cell? ⟨w.heap.size + 1, 2, none⟩ = some (.slice none 0 0) := (hc3 _ _ hy2).trans ((hc2 _ _ hy1).trans ((hc1 _ _ hlt2).trans e2))
  clear hHeld hc1 hc2 hc3 hf1 hf2 hf3 pB qB rB
  go_wp2
  refine bodyPost_ret (v := .agg #[.slice b1 L1 d1, .slice b2 L2 d2, .slice b3 L3 d3]) (by simp [results, Try.results39, go_sem, j0, j1, j2]) rfl ⟨_, _, _, rfl, o1.mono (by omega), o2.mono (by omega), o3.mono (by omega), hd, hbe⟩
end Go.Proofs.Ytbalebnhjpjhgaa.L9

/- Take. -/
namespace Go.Proofs.Ytbalebnhjpjhgaa.L9
open Go.RowKit

/-- Slots, plainly. -/
structure Sl where
  g : List Int
  u : List Bool
  f : List Int
def Sl.right (s : Sl) : Bool := rightB s.g s.u s.f
def nilV : Value := .agg #[.slice none 0 0, .slice none 0 0, .slice none 0 0]

structure RightS (s : Sl) : Prop where
  l1 : 1 ≤ s.g.length
  l2 : s.g.length ≤ 64
  l3 : s.u.length = s.g.length
  l4 : s.f.length ≤ s.g.length
  gen : ∀ g ∈ s.g, 0 ≤ g ∧ g ≤ 1000000000
  free : ∀ x ∈ s.f, isFree s.u x
  nodup : s.f.Nodup
  count : s.f.length + (takenOf s.g s.u).length = s.u.length
theorem right_iff (s : Sl) : s.right = true ↔ RightS s := by
  unfold Sl.right rightB sizesB sz gensB freeB
  simp only [Bool.and_eq_true, decide_eq_true_eq]
  constructor
  · rintro ⟨⟨⟨h1, h2, h3, h4⟩, h5⟩, h6, h7, h8⟩; exact ⟨h1, h2, h3, h4, h5, h6, h7, h8⟩
  · rintro ⟨h1, h2, h3, h4, h5, h6, h7, h8⟩; exact ⟨⟨⟨h1, h2, h3, h4⟩, h5⟩, h6, h7, h8⟩

theorem right2_any (a1 a2 a3 : Option Addr) (c1 c2 c3 L1 L2 L3 : Nat) (s : Sl) (h1 : s.g.length = L1) (h2 : s.u.length = L2) (h3 : s.f.length = L3) (w : World) (h : SlotsAt w.heap.size w a1 a2 a3 s.g s.u s.f) :
    Calls Try.prog 14 #[.agg #[.slice a1 L1 c1, .slice a2 L2 c2, .slice a3 L3 c3]] w fun e w' => e = .returned (.bool s.right) ∧ Below w.heap.size w w' := by
  subst h1 h2 h3
  exact right_any a1 a2 a3 c1 c2 c3 s.g s.u s.f w h

/-- A block of three nil slices that may be written. -/
structure Fr3 (B : Nat) (W : World) : Prop where
  e0 : W.cell? ⟨B, 0, none⟩ = some (.slice none 0 0)
  e1 : W.cell? ⟨B, 1, none⟩ = some (.slice none 0 0)
  e2 : W.cell? ⟨B, 2, none⟩ = some (.slice none 0 0)
  f0 : W.frozen? ⟨B, 0, none⟩ = false
  f1 : W.frozen? ⟨B, 1, none⟩ = false
  f2 : W.frozen? ⟨B, 2, none⟩ = false
theorem Fr3.on {B n : Nat} {W W' : World} (h : Fr3 B W) (hb : Below n W W') (hB : B < n) : Fr3 B W' :=
  ⟨(hb.cell (p := ⟨B, 0, none⟩) hB).trans h.e0, (hb.cell (p := ⟨B, 1, none⟩) hB).trans h.e1, (hb.cell (p := ⟨B, 2, none⟩) hB).trans h.e2, (hb.frozen (p := ⟨B, 0, none⟩) hB).trans h.f0, (hb.frozen (p := ⟨B, 1, none⟩) hB).trans h.f1, (hb.frozen (p := ⟨B, 2, none⟩) hB).trans h.f2⟩
theorem Fr3.new (W : World) (t : TypeId) : Fr3 W.heap.size (W.alloc (.cells #[.slice none 0 0, .slice none 0 0, .slice none 0 0] t)) := by constructor <;> go_simp
/-- A handle's block that may be written. -/
structure Fr2 (B : Nat) (W : World) : Prop where
  e0 : W.cell? ⟨B, 0, none⟩ = some (.int .i64 0)
  e1 : W.cell? ⟨B, 1, none⟩ = some (.int .i64 0)
  f0 : W.frozen? ⟨B, 0, none⟩ = false
  f1 : W.frozen? ⟨B, 1, none⟩ = false
theorem Fr2.on {B n : Nat} {W W' : World} (h : Fr2 B W) (hb : Below n W W') (hB : B < n) : Fr2 B W' :=
  ⟨(hb.cell (p := ⟨B, 0, none⟩) hB).trans h.e0, (hb.cell (p := ⟨B, 1, none⟩) hB).trans h.e1, (hb.frozen (p := ⟨B, 0, none⟩) hB).trans h.f0, (hb.frozen (p := ⟨B, 1, none⟩) hB).trans h.f1⟩
theorem Fr2.new (W : World) (t : TypeId) : Fr2 W.heap.size (W.alloc (.cells #[.int .i64 0, .int .i64 0] t)) := by constructor <;> go_simp
theorem below_set5 {n B2 B3 : Nat} {w W : World} (h : Below n w W) (h2 : n ≤ B2) (h3 : n ≤ B3) (v0 v1 v2 v3 v4 : Value) :
    Below n w (((((W.setCell ⟨B2, 0, none⟩ v0).setCell ⟨B2, 1, none⟩ v1).setCell ⟨B2, 2, none⟩ v2).setCell ⟨B3, 0, none⟩ v3).setCell ⟨B3, 1, none⟩ v4) :=
  ((((h.setCell (p := ⟨B2, 0, none⟩) h2 _).setCell (p := ⟨B2, 1, none⟩) h2 _).setCell (p := ⟨B2, 2, none⟩) h2 _).setCell (p := ⟨B3, 0, none⟩) h3 _).setCell (p := ⟨B3, 1, none⟩) h3 _

set_option maxRecDepth 100000 in
set_option maxHeartbeats 1000000 in
theorem take_wrong (a1 a2 a3 : Option Addr) (c1 c2 c3 L1 L2 L3 : Nat) (s : Sl) (h1 : s.g.length = L1) (h2 : s.u.length = L2) (h3 : s.f.length = L3) (w : World) (h : SlotsAt w.heap.size w a1 a2 a3 s.g s.u s.f) (hr : s.right = false) :
    Calls Try.prog 22 #[.agg #[.slice a1 L1 c1, .slice a2 L2 c2, .slice a3 L3 c3]] w fun e w' => e = .returned (.tuple #[nilV, handV (0, 0), .int .i64 90]) ∧ Below w.heap.size w w' := by
  have H := Lib.hid (fun w hS => right2_any a1 a2 a3 c1 c2 c3 L1 L2 L3 s h1 h2 h3 w hS)
  rw [hr] at H
  have HS := Lib.hid h
  clear h hr h1 h2 h3
  go_enter Try.func22, Try.ntmps22
  go_wp2_with fail
  refine (H.out _ ?_).mono ?_
  · exact HS.out.on ((((Below.refl _ _).alloc (Nat.le_refl _) _).alloc (by simp) _).alloc (by simp; omega) _)
  rintro e w1 ⟨rfl, hb1⟩
  have hz1 := hb1.size
  have hW : Below w.heap.size w w1 := ((((Below.refl _ _).alloc (Nat.le_refl _) _).alloc (by simp) _).alloc (by simp; omega) _).trans (hb1.mono (by simp; omega))
  have r3 := ((Fr3.new (w.alloc (.cells #[.slice a1 L1 c1, .slice a2 L2 c2, .slice a3 L3 c3] 25)) 25).on ((Below.refl _ _).alloc (Nat.le_refl _) (.cells #[.int .i64 0, .int .i64 0] 27)) (by simp)).on hb1 (by simp)
  have r2 := (Fr2.new ((w.alloc (.cells #[.slice a1 L1 c1, .slice a2 L2 c2, .slice a3 L3 c3] 25)).alloc (.cells #[.slice none 0 0, .slice none 0 0, .slice none 0 0] 25)) 27).on hb1 (by simp)
  simp only [World.size_alloc] at r2 r3 hz1
  obtain ⟨e0, e1, e2, f0, f1, f2⟩ := r3
  obtain ⟨e3, e4, f3, f4⟩ := r2
  clear hb1
  go_wp2
  refine bodyPost_ret (v := .tuple #[nilV, handV (0, 0), .int .i64 90]) (by simp [results, Try.results22, go_sem, nilV, handV, e0, e1, e2, e3, e4]) rfl ⟨rfl, ?_⟩
  exact below_set5 hW (by omega) (by omega) _ _ _ _ _
end Go.Proofs.Ytbalebnhjpjhgaa.L9

/- Take: no slot is free, or the last one's has been used up. -/
namespace Go.Proofs.Ytbalebnhjpjhgaa.L9
open Go.RowKit

theorem copy2_any (a1 a2 a3 : Option Addr) (c1 c2 c3 L1 L2 L3 : Nat) (s : Sl) (h1 : s.g.length = L1) (h2 : s.u.length = L2) (h3 : s.f.length = L3) (l1 : L1 ≤ 1000) (l2 : L2 ≤ 1000) (l3 : L3 ≤ 1000) (w : World) (h : SlotsAt w.heap.size w a1 a2 a3 s.g s.u s.f) :
    Calls Try.prog 39 #[.agg #[.slice a1 L1 c1, .slice a2 L2 c2, .slice a3 L3 c3]] w fun e w' => ∃ b1 b2 b3 d1 d2 d3, e = .returned (.agg #[.slice b1 L1 d1, .slice b2 L2 d2, .slice b3 L3 d3]) ∧
      OwnI w.heap.size w' (.slice b1 L1 d1) s.g ∧ OwnB w.heap.size w' (.slice b2 L2 d2) s.u ∧ OwnI w.heap.size w' (.slice b3 L3 d3) s.f ∧ (∀ b, Value.ownBlock (.slice b1 L1 d1) = some b → Value.ownBlock (.slice b3 L3 d3) ≠ some b) ∧ Below w.heap.size w w' := by
  subst h1 h2 h3
  refine (copy_any a1 a2 a3 c1 c2 c3 s.g s.u s.f l1 l2 l3 w h).mono ?_
  rintro e w' ⟨v1, v2, v3, rfl, o1, o2, o3, hd, hb⟩
  obtain ⟨b1, d1, rfl, _⟩ := o1.form
  obtain ⟨b2, d2, rfl, _⟩ := o2.form
  obtain ⟨b3, d3, rfl, _⟩ := o3.form
  exact ⟨b1, b2, b3, d1, d2, d3, rfl, o1, o2, o3, hd, hb⟩

/-- With three lists that are not empty: where their cells lie. -/
theorem copy3_any (a1 a2 a3 : Option Addr) (c1 c2 c3 L1 L2 L3 : Nat) (s : Sl) (h1 : s.g.length = L1) (h2 : s.u.length = L2) (h3 : s.f.length = L3) (l1 : L1 ≤ 1000) (l2 : L2 ≤ 1000) (l3 : L3 ≤ 1000) (p1 : 0 < L1) (p2 : 0 < L2) (p3 : 0 < L3) (w : World) (h : SlotsAt w.heap.size w a1 a2 a3 s.g s.u s.f) :
    Calls Try.prog 39 #[.agg #[.slice a1 L1 c1, .slice a2 L2 c2, .slice a3 L3 c3]] w fun e w' => ∃ g1 g2 g3 d1 d2 d3, e = .returned (.agg #[.slice (some ⟨g1, 0, none⟩) L1 d1, .slice (some ⟨g2, 0, none⟩) L2 d2, .slice (some ⟨g3, 0, none⟩) L3 d3]) ∧
      OwnI w.heap.size w' (.slice (some ⟨g1, 0, none⟩) L1 d1) s.g ∧ OwnB w.heap.size w' (.slice (some ⟨g2, 0, none⟩) L2 d2) s.u ∧ OwnI w.heap.size w' (.slice (some ⟨g3, 0, none⟩) L3 d3) s.f ∧ g1 ≠ g3 ∧ L3 ≤ d3 ∧ Below w.heap.size w w' := by
  refine (copy2_any a1 a2 a3 c1 c2 c3 L1 L2 L3 s h1 h2 h3 l1 l2 l3 w h).mono ?_
  rintro e w' ⟨b1, b2, b3, d1, d2, d3, rfl, o1, o2, o3, hd, hb⟩
  obtain ⟨g1, k1, e1, _, _⟩ := World.ownsRow.form o1 (by omega)
  obtain ⟨g2, k2, e2, _, _⟩ := World.ownsRow.form o2 (by omega)
  obtain ⟨g3, k3, e3, _, _⟩ := World.ownsRow.form o3 (by omega)
  simp only [Value.slice.injEq] at e1 e2 e3
  obtain ⟨rfl, _, rfl⟩ := e1
  obtain ⟨rfl, _, rfl⟩ := e2
  obtain ⟨rfl, _, rfl⟩ := e3
  refine ⟨g1, g2, g3, d1, d2, d3, rfl, o1, o2, o3, fun e => hd g1 rfl (by rw [e]; rfl), ?_, hb⟩
  rcases o3.2 with ⟨h', _⟩ | ⟨g, cap, cur, h', _, _, hc, _⟩
  · simp at h'
  · simp only [Value.slice.injEq] at h'; omega

set_option maxRecDepth 100000 in
set_option maxHeartbeats 2000000 in
theorem take_none (a1 a2 a3 : Option Addr) (c1 c2 c3 L1 L2 : Nat) (s : Sl) (h1 : s.g.length = L1) (h2 : s.u.length = L2) (h3 : s.f = []) (w : World) (h : SlotsAt w.heap.size w a1 a2 a3 s.g s.u s.f) (hr : s.right = true) :
    Calls Try.prog 22 #[.agg #[.slice a1 L1 c1, .slice a2 L2 c2, .slice a3 0 c3]] w fun e w' => e = .returned (.tuple #[nilV, handV (0, 0), .int .i64 92]) ∧ Below w.heap.size w w' := by
  obtain ⟨R1, R2, R3, R4, _⟩ := (right_iff s).1 hr
  have H := Lib.hid (fun w hS => right2_any a1 a2 a3 c1 c2 c3 L1 L2 0 s h1 h2 (by rw [h3]; rfl) w hS)
  have H2 := Lib.hid (fun w hS => copy2_any a1 a2 a3 c1 c2 c3 L1 L2 0 s h1 h2 (by rw [h3]; rfl) (by omega) (by omega) (by omega) w hS)
  rw [hr] at H
  have HS := Lib.hid h
  clear h hr h1 h2 h3 R1 R2 R3 R4
  go_enter Try.func22, Try.ntmps22
  go_wp2_with fail
  have hA : Below w.heap.size w (((w.alloc (.cells #[.slice a1 L1 c1, .slice a2 L2 c2, .slice a3 0 c3] 25)).alloc (.cells #[.slice none 0 0, .slice none 0 0, .slice none 0 0] 25)).alloc (.cells #[.int .i64 0, .int .i64 0] 27)) := (((Below.refl _ _).alloc (Nat.le_refl _) _).alloc (by simp) _).alloc (by simp; omega) _
  refine (H.out _ (HS.out.on hA)).mono ?_
  rintro e w1 ⟨rfl, hb1⟩
  have hz1 := hb1.size
  have hW := hA.trans (hb1.mono hA.size)
  have r3 := ((Fr3.new (w.alloc (.cells #[.slice a1 L1 c1, .slice a2 L2 c2, .slice a3 0 c3] 25)) 25).on ((Below.refl _ _).alloc (Nat.le_refl _) (.cells #[.int .i64 0, .int .i64 0] 27)) (by simp)).on hb1 (by simp)
  have r2 := (Fr2.new ((w.alloc (.cells #[.slice a1 L1 c1, .slice a2 L2 c2, .slice a3 0 c3] 25)).alloc (.cells #[.slice none 0 0, .slice none 0 0, .slice none 0 0] 25)) 27).on hb1 (by simp)
  have k0 : w1.cell? ⟨w.heap.size, 0, none⟩ = some (.slice a1 L1 c1) := (hb1.cell (p := ⟨w.heap.size, 0, none⟩) (by simp; omega)).trans (by go_simp)
  have k1 : w1.cell? ⟨w.heap.size, 1, none⟩ = some (.slice a2 L2 c2) := (hb1.cell (p := ⟨w.heap.size, 1, none⟩) (by simp; omega)).trans (by go_simp)
  have k2 : w1.cell? ⟨w.heap.size, 2, none⟩ = some (.slice a3 0 c3) := (hb1.cell (p := ⟨w.heap.size, 2, none⟩) (by simp; omega)).trans (by go_simp)
  simp only [World.size_alloc] at r2 r3 hz1
  clear hb1 hA
  go_wp2_with fail
  refine (H2.out _ (HS.out.on hW)).mono ?_
  rintro e w2 ⟨b1, b2, b3, d1, d2, d3, rfl, o1, o2, o3, hd, hb2⟩
  have hz2 := hb2.size
  have hW2 := hW.trans (hb2.mono hW.size)
  obtain ⟨e0, e1, e2, f0, f1, f2⟩ := (r3.on hb2 (by omega)).on ((Below.refl w2.heap.size w2).alloc (Nat.le_refl _) (.cells #[.slice b1 L1 d1, .slice b2 L2 d2, .slice b3 0 d3] 47)) (by omega)
  obtain ⟨e3, e4, f3, f4⟩ := (r2.on hb2 (by omega)).on ((Below.refl w2.heap.size w2).alloc (Nat.le_refl _) (.cells #[.slice b1 L1 d1, .slice b2 L2 d2, .slice b3 0 d3] 47)) (by omega)
  have hW3 := hW2.alloc hW2.size (.cells #[.slice b1 L1 d1, .slice b2 L2 d2, .slice b3 0 d3] 47)
  clear hb2 o1 o2 o3 hd hW r3 r2 k0 k1 k2
  go_wp2_with fail
  generalize (w2.alloc (.cells #[.slice b1 L1 d1, .slice b2 L2 d2, .slice b3 0 d3] 47)) = U at *
  go_quiet (fail)
  go_wp2
  refine bodyPost_ret (v := .tuple #[nilV, handV (0, 0), .int .i64 92]) (by simp [results, Try.results22, go_sem, nilV, handV, e0, e1, e2, e3, e4]) rfl ⟨rfl, ?_⟩
  exact below_set5 (below_drewN hW3 _) (by omega) (by omega) _ _ _ _ _
end Go.Proofs.Ytbalebnhjpjhgaa.L9

/- Take: the last slot has been used up; the last slot is taken. -/
namespace Go.Proofs.Ytbalebnhjpjhgaa.L9
open Go.RowKit

theorem OwnI.cell {base g n cap : Nat} {W : World} {zs : List Int} (h : OwnI base W (.slice (some ⟨g, 0, none⟩) n cap) zs) (hn : zs.length = n) {j : Nat} {x : Int} (hj : zs[j]? = some x) : W.cell? ⟨g, j, none⟩ = some (.int .i64 x) := by
  subst hn
  have hl := (List.getElem?_eq_some_iff.1 hj).1
  rw [World.ownsRow.cellAt h j (by omega)]
  simp [intVs, hj]
theorem OwnB.cell {base g n cap : Nat} {W : World} {zs : List Bool} (h : OwnB base W (.slice (some ⟨g, 0, none⟩) n cap) zs) (hn : zs.length = n) {j : Nat} {x : Bool} (hj : zs[j]? = some x) : W.cell? ⟨g, j, none⟩ = some (.bool x) := by
  subst hn
  have hl := (List.getElem?_eq_some_iff.1 hj).1
  rw [World.ownsRow.cellAt h j (by omega)]
  simp [boolVs, hj]
theorem OwnI.frozen {base g n cap : Nat} {W : World} {zs : List Int} (h : OwnI base W (.slice (some ⟨g, 0, none⟩) n cap) zs) (hn : zs.length = n) (j : Nat) : W.frozen? ⟨g, j, none⟩ = false := by subst hn; exact World.ownsRow.frozenAt h j
theorem OwnB.frozen {base g n cap : Nat} {W : World} {zs : List Bool} (h : OwnB base W (.slice (some ⟨g, 0, none⟩) n cap) zs) (hn : zs.length = n) (j : Nat) : W.frozen? ⟨g, j, none⟩ = false := by subst hn; exact World.ownsRow.frozenAt h j

set_option maxRecDepth 100000 in
set_option maxHeartbeats 2000000 in
theorem take_max (a1 a2 a3 : Option Addr) (c1 c2 c3 L1 L2 L3 m k : Nat) (s : Sl) (fs : List Int) (h1 : s.g.length = L1) (h2 : s.u.length = L2) (h3 : s.f.length = L3) (hf : s.f = fs ++ [(k : Int)]) (hm : fs.length = m) (hk : k < L1) (hq : s.g[k]? = some 1000000000) (w : World) (h : SlotsAt w.heap.size w a1 a2 a3 s.g s.u s.f) (hr : s.right = true) :
    Calls Try.prog 22 #[.agg #[.slice a1 L1 c1, .slice a2 L2 c2, .slice a3 L3 c3]] w fun e w' => e = .returned (.tuple #[nilV, handV (0, 0), .int .i64 92]) ∧ Below w.heap.size w w' := by
  obtain ⟨R1, R2, R3, R4, _⟩ := (right_iff s).1 hr
  have hL3 : L3 = m + 1 := by rw [← h3, hf]; simp [hm]
  have hlast : s.f[m]? = some (k : Int) := by rw [hf, ← hm]; simp
  have H := Lib.hid (fun w hS => right2_any a1 a2 a3 c1 c2 c3 L1 L2 L3 s h1 h2 h3 w hS)
  have H2 := Lib.hid (fun w hS => copy3_any a1 a2 a3 c1 c2 c3 L1 L2 L3 s h1 h2 h3 (by omega) (by omega) (by omega) (by omega) (by omega) (by omega) w hS)
  rw [hr] at H
  have HS := Lib.hid h
  have hs1 : (L3 : Int) - 1 = (m : Int) := by omega
  have hmm : (m : Int) ≤ 1000 := by omega
  have hm3 : m < L3 := by omega
  have hd0 : decide ((m : Int) < 0) = false := decide_eq_false (by omega)
  have HF := Lib.hid hlast
  have HQ := Lib.hid hq
  have HL := Lib.hid h3
  have HL1 := Lib.hid h1
  clear h hr h1 h2 h3 R1 R2 R3 R4 hf hlast hq hL3 hm
  go_enter Try.func22, Try.ntmps22
  go_wp2_with fail
  have hA : Below w.heap.size w (((w.alloc (.cells #[.slice a1 L1 c1, .slice a2 L2 c2, .slice a3 L3 c3] 25)).alloc (.cells #[.slice none 0 0, .slice none 0 0, .slice none 0 0] 25)).alloc (.cells #[.int .i64 0, .int .i64 0] 27)) := (((Below.refl _ _).alloc (Nat.le_refl _) _).alloc (by simp) _).alloc (by simp; omega) _
  refine (H.out _ (HS.out.on hA)).mono ?_
  rintro e w1 ⟨rfl, hb1⟩
  have hz1 := hb1.size
  have hW := hA.trans (hb1.mono hA.size)
  have r3 := ((Fr3.new (w.alloc (.cells #[.slice a1 L1 c1, .slice a2 L2 c2, .slice a3 L3 c3] 25)) 25).on ((Below.refl _ _).alloc (Nat.le_refl _) (.cells #[.int .i64 0, .int .i64 0] 27)) (by simp)).on hb1 (by simp)
  have r2 := (Fr2.new ((w.alloc (.cells #[.slice a1 L1 c1, .slice a2 L2 c2, .slice a3 L3 c3] 25)).alloc (.cells #[.slice none 0 0, .slice none 0 0, .slice none 0 0] 25)) 27).on hb1 (by simp)
  have k0 : w1.cell? ⟨w.heap.size, 0, none⟩ = some (.slice a1 L1 c1) := (hb1.cell (p := ⟨w.heap.size, 0, none⟩) (by simp; omega)).trans (by go_simp)
  have k1 : w1.cell? ⟨w.heap.size, 1, none⟩ = some (.slice a2 L2 c2) := (hb1.cell (p := ⟨w.heap.size, 1, none⟩) (by simp; omega)).trans (by go_simp)
  have k2 : w1.cell? ⟨w.heap.size, 2, none⟩ = some (.slice a3 L3 c3) := (hb1.cell (p := ⟨w.heap.size, 2, none⟩) (by simp; omega)).trans (by go_simp)
  simp only [World.size_alloc] at r2 r3 hz1
  clear hb1 hA
  go_wp2_with fail
  refine (H2.out _ (HS.out.on hW)).mono ?_
  rintro e w2 ⟨g1, g2, g3, d1, d2, d3, rfl, o1, o2, o3, hd, hcd, hb2⟩
  have hz2 := hb2.size
  have hW2 := hW.trans (hb2.mono hW.size)
  have hX : Below w2.heap.size w2 (w2.alloc (.cells #[.slice (some ⟨g1, 0, none⟩) L1 d1, .slice (some ⟨g2, 0, none⟩) L2 d2, .slice (some ⟨g3, 0, none⟩) L3 d3] 47)) := (Below.refl w2.heap.size w2).alloc (Nat.le_refl _) _
  obtain ⟨e0, e1, e2, f0, f1, f2⟩ := (r3.on hb2 (by omega)).on hX (by omega)
  obtain ⟨e3, e4, f3, f4⟩ := (r2.on hb2 (by omega)).on hX (by omega)
  have x1 := (o1.on hX).cell HL1.out HQ.out
  have x3 := (o3.on hX).cell HL.out HF.out
  have t0 : (w2.alloc (.cells #[.slice (some ⟨g1, 0, none⟩) L1 d1, .slice (some ⟨g2, 0, none⟩) L2 d2, .slice (some ⟨g3, 0, none⟩) L3 d3] 47)).cell? ⟨w2.heap.size, 0, none⟩ = some (.slice (some ⟨g1, 0, none⟩) L1 d1) := by go_simp
  have t2 : (w2.alloc (.cells #[.slice (some ⟨g1, 0, none⟩) L1 d1, .slice (some ⟨g2, 0, none⟩) L2 d2, .slice (some ⟨g3, 0, none⟩) L3 d3] 47)).cell? ⟨w2.heap.size, 2, none⟩ = some (.slice (some ⟨g3, 0, none⟩) L3 d3) := by go_simp
  have hW3 := hW2.trans (hX.mono hW2.size)
  clear hb2 o1 o2 o3 hd hW r3 r2 k0 k1 k2 hX
  go_wp2_with fail
  generalize (w2.alloc (.cells #[.slice (some ⟨g1, 0, none⟩) L1 d1, .slice (some ⟨g2, 0, none⟩) L2 d2, .slice (some ⟨g3, 0, none⟩) L3 d3] 47)) = U at *
  go_quiet (fail)
  go_wp2
  refine bodyPost_ret (v := .tuple #[nilV, handV (0, 0), .int .i64 92]) (by simp [results, Try.results22, go_sem, nilV, handV, e0, e1, e2, e3, e4]) rfl ⟨rfl, ?_⟩
  exact below_set5 (below_drewN hW3 _) (by omega) (by omega) _ _ _ _ _
end Go.Proofs.Ytbalebnhjpjhgaa.L9

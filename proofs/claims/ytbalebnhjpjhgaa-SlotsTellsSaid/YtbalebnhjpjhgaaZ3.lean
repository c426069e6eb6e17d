/- N9T, N9U, N9V, N9W, RA, N9X, N9Y, Held -/
import Derived.Test.YtbalebnhjpjhgaaZ2
import Derived.Laws.MakeOwn
import Derived.StillTailTactics
import Derived.Test.YtbalebnhjpjhgaaZ0
set_option linter.unusedVariables false
set_option linter.unusedSimpArgs false
/- slices.Collect; All; New of wrong numbers. -/
namespace Go.Proofs.Ytbalebnhjpjhgaa.L9
open Go.RowKit

/-- What All lists. -/
def Sl.all (s : Sl) : List (Int × Int) := if s.right = true then takenOf s.g s.u else []

set_option maxRecDepth 100000 in
set_option maxHeartbeats 1000000 in
theorem collect_any (Bs : Nat) (a1 a2 : Option Addr) (s3 : Value) (c1 c2 L : Nat) (gs : List Int) (us : List Bool) (hg : gs.length = L) (hu : us.length = L) (hlen : L ≤ 1000) (w : World)
    (hB0 : w.cell? ⟨Bs, 0, none⟩ = some (.slice a1 L c1)) (hB1 : w.cell? ⟨Bs, 1, none⟩ = some (.slice a2 L c2)) (hB2 : w.cell? ⟨Bs, 2, none⟩ = some s3) (hI : IntsAt w.heap.size w a1 gs) (hU : BoolsAt w.heap.size w a2 us) :
    Calls Try.prog 37 #[.func (.func 46) #[] #[.pointer (some ⟨Bs, 0, none⟩)]] w fun e w' => ∃ v, e = .returned v ∧ OwnH w.heap.size w' v (takenOf gs us) ∧ Below w.heap.size w w' := by
  have H := Lib.hid ((callsIn_wide (n := 5)).1 (seq_in Fence.wide 5 trivial trivial trivial rfl (Nat.le_refl _) Bs a1 a2 s3 c1 c2 gs us (by omega) (by omega) w (by rw [hg]; exact hB0) (by rw [hu]; exact hB1) hB2 hI hU))
  clear hB0 hB1 hB2 hI hU hg hu hlen
  go_enter Try.func37, Try.ntmps37
  go_wp2_with fail
  refine H.out.mono ?_
  rintro e w1 ⟨v, rfl, ho, hb⟩
  have HO := Lib.hid ho
  clear ho
  go_wp2
  go_ret
  exact ⟨v, rfl, HO.out, hb⟩

set_option maxRecDepth 100000 in
set_option maxHeartbeats 1000000 in
theorem all_any (a1 a2 a3 : Option Addr) (c1 c2 c3 L1 L2 L3 : Nat) (s : Sl) (h1 : s.g.length = L1) (h2 : s.u.length = L2) (h3 : s.f.length = L3) (w : World) (h : SlotsAt w.heap.size w a1 a2 a3 s.g s.u s.f) :
    Calls Try.prog 20 #[.agg #[.slice a1 L1 c1, .slice a2 L2 c2, .slice a3 L3 c3]] w fun e w' => ∃ v, e = .returned v ∧ OwnH w.heap.size w' v s.all ∧ Below w.heap.size w w' := by
  have H := Lib.hid (fun w hS => right2_any a1 a2 a3 c1 c2 c3 L1 L2 L3 s h1 h2 h3 w hS)
  have HS := Lib.hid h
  have hA : Below w.heap.size w (w.alloc (.cells #[.slice a1 L1 c1, .slice a2 L2 c2, .slice a3 L3 c3] 25)) := (Below.refl _ _).alloc (Nat.le_refl _) _
  have HA := Lib.hid hA
  clear h hA
  unfold Sl.all
  cases hr : s.right with
  | false =>
    rw [hr] at H
    clear h1 h2 h3 hr
    simp only [Bool.false_eq_true, if_false]
    go_enter Try.func20, Try.ntmps20
    go_wp2_with fail
    refine (H.out _ (HS.out.on HA.out)).mono ?_; rintro e w1 ⟨rfl, hb1⟩
    go_wp2
    go_ret
    exact ⟨_, rfl, World.ownsRow_nil _ _ _ _, HA.out.trans (hb1.mono HA.out.size)⟩
  | true =>
    obtain ⟨R1, R2, R3, R4, _⟩ := (right_iff s).1 hr
    obtain rfl : L1 = L2 := by omega
    have G := Lib.hid (fun Bs w k0 k1 k2 hi hu => collect_any Bs a1 a2 (.slice a3 L3 c3) c1 c2 L1 s.g s.u h1 h2 (by omega) w k0 k1 k2 hi hu)
    have T := Lib.hid (fun w => (callsIn_wide (n := 2)).1 (taken_in Fence.wide 2 trivial rfl (.slice a1 L1 c1) (.slice a2 L1 c2) (.slice a3 L3 c3) w))
    rw [hr] at H
    simp only [if_true]
    clear h1 h2 h3 hr R1 R2 R3 R4
    go_enter Try.func20, Try.ntmps20
    go_wp2_with fail
    refine (H.out _ (HS.out.on HA.out)).mono ?_; rintro e w1 ⟨rfl, hb1⟩
    obtain ⟨hc1, hf1⟩ := bcell hb1
    have hz1 := hb1.size
    simp only [World.size_alloc] at hz1
    have HB := Lib.hid (HA.out.trans (hb1.mono HA.out.size))
    clear hb1
    go_wp2_with fail
    refine (T.out _).mono ?_; rintro e w2 ⟨rfl, rfl⟩
    go_wp2_with fail
    refine (G.out _ _ ?_ ?_ ?_ (HS.out.on (HB.out.alloc HB.out.size _)).g (HS.out.on (HB.out.alloc HB.out.size _)).u).mono ?_
    · go_simp
    · go_simp
    · go_simp
    rintro e w3 ⟨v, rfl, ho, hb3⟩
    have HO := Lib.hid ho
    have hz := HB.out.size
    clear ho
    go_wp2
    go_ret
    exact ⟨v, rfl, (⟨HO.out.1, HO.out.2.imp id fun ⟨g, cap, cur, hv, hb, rest⟩ => ⟨g, cap, cur, hv, Nat.le_trans (by simp; omega) hb, rest⟩⟩ : OwnH _ _ _ _), (HB.out.alloc HB.out.size _).trans (hb3.mono (by simp; omega))⟩

set_option maxRecDepth 100000 in
set_option maxHeartbeats 1000000 in
theorem new_wrong (n : Int) (w : World) (h : n < 1 ∨ 64 < n) :
    Calls Try.prog 11 #[.int .i64 n] w fun e w' => e = .returned (.tuple #[nilV, .int .i64 2]) ∧ Below w.heap.size w w' := by
  obtain ⟨e0, e1, e2, f0, f1, f2⟩ := Fr3.new w 25
  by_cases h1 : n < 1
  · clear h
    go_enter Try.func11, Try.ntmps11
    go_wp2
    refine bodyPost_ret (v := .tuple #[nilV, .int .i64 2]) (by simp [results, Try.results11, go_sem, nilV, e0, e1, e2]) rfl ⟨rfl, ?_⟩
    exact (Below.refl _ _).alloc (Nat.le_refl _) _
  · have h2 : 64 < n := by omega
    clear h
    go_enter Try.func11, Try.ntmps11
    go_wp2
    refine bodyPost_ret (v := .tuple #[nilV, .int .i64 2]) (by simp [results, Try.results11, go_sem, nilV, e0, e1, e2]) rfl ⟨rfl, ?_⟩
    exact (Below.refl _ _).alloc (Nat.le_refl _) _
end Go.Proofs.Ytbalebnhjpjhgaa.L9

/- New. -/
namespace Go.Proofs.Ytbalebnhjpjhgaa.L9
open Go.RowKit

theorem made_int (n j : Nat) (h : j < n) : (madeCells #[.int .i64 0] n)[j]? = some (.int .i64 0) := by simp [madeCells, h, Nat.mod_one]
theorem made_bool (n j : Nat) (h : j < n) : (madeCells #[.bool false] n)[j]? = some (.bool false) := by simp [madeCells, h, Nat.mod_one]
theorem madeI_eq (n : Nat) : (madeCells #[.int .i64 0] n).toList = intVs (List.replicate n 0) := by
  apply List.ext_getElem?
  intro j
  by_cases h : j < n
  · rw [← Array.getElem?_toList.symm, made_int n j h]; simp [intVs, h]
  · simp [madeCells, h, intVs]
theorem madeB_eq (n : Nat) : (madeCells #[.bool false] n).toList = boolVs (List.replicate n false) := by
  apply List.ext_getElem?
  intro j
  by_cases h : j < n
  · rw [← Array.getElem?_toList.symm, made_bool n j h]; simp [boolVs, h]
  · simp [madeCells, h, boolVs]
theorem make_ints (n : Nat) (h : n ≤ 100000) (W : World) : (Instr.makeSlice 22 (.int .i64 n) (.int .i64 n)).run Try.prog W = .ok (.slice (some ⟨W.heap.size, 0, none⟩) n n) (W.alloc (.cells (madeCells #[.int .i64 0] n) 3)) := by
  obtain ⟨i, hi, hz, hs, hb⟩ := info_parts info3
  have := run_make (P := Try.prog) W 22 3 i (.int .i64 0) (by kernel_rfl) hi hz .i64 .i64 (n : Int) (n : Int) (by omega) (by omega) (by rw [hb]; omega) (by omega)
  simp only [Int.toNat_natCast, hs, Nat.mul_one] at this
  exact this
theorem make_bools (n : Nat) (h : n ≤ 100000) (W : World) : (Instr.makeSlice 23 (.int .i64 n) (.int .i64 n)).run Try.prog W = .ok (.slice (some ⟨W.heap.size, 0, none⟩) n n) (W.alloc (.cells (madeCells #[.bool false] n) 4)) := by
  obtain ⟨i, hi, hz, hs, hb⟩ := info_parts info4
  have := run_make (P := Try.prog) W 23 4 i (.bool false) (by kernel_rfl) hi hz .i64 .i64 (n : Int) (n : Int) (by omega) (by omega) (by rw [hb]; omega) (by omega)
  simp only [Int.toNat_natCast, hs, Nat.mul_one] at this
  exact this
theorem ownI_made (W : World) (n base : Nat) (h : n ≤ 100000) (hb : base ≤ W.heap.size) : OwnI base (W.alloc (.cells (madeCells #[.int .i64 0] n) 3)) (.slice (some ⟨W.heap.size, 0, none⟩) n n) (List.replicate n 0) := by
  have := World.ownsRow_lit (base := base) (e := 3) (size := 1) W (madeCells #[.int .i64 0] n) n hb (by simp [maxLen]; omega) (by simp [madeCells])
  rw [madeI_eq] at this
  unfold OwnI
  rw [List.length_replicate]
  exact this
theorem ownB_made (W : World) (n base : Nat) (h : n ≤ 100000) (hb : base ≤ W.heap.size) : OwnB base (W.alloc (.cells (madeCells #[.bool false] n) 4)) (.slice (some ⟨W.heap.size, 0, none⟩) n n) (List.replicate n false) := by
  have := World.ownsRow_lit (base := base) (e := 4) (size := 1) W (madeCells #[.bool false] n) n hb (by simp [maxLen]; omega) (by simp [madeCells])
  rw [madeB_eq] at this
  unfold OwnB
  rw [List.length_replicate]
  exact this

/-- The first k of n - 1, n - 2, .. -/
def frees (n k : Nat) : List Int := (List.range k).map fun (j : Nat) => (n : Int) - 1 - (j : Int)
theorem frees_succ (n k : Nat) : frees n (k + 1) = frees n k ++ [(n : Int) - 1 - k] := by simp [frees, List.range_succ]
theorem frees_length (n k : Nat) : (frees n k).length = k := by simp [frees]
def newS (n : Nat) : Sl := ⟨List.replicate n 0, List.replicate n false, frees n n⟩

theorem grow_step {V W w1 : World} {X : Obj} {T : Nat} {row : Option Nat} (h : V.grownBy W (some T)) (hg : (W.alloc X).grownBy w1 row) (hr : ∀ b, row = some b → V.heap.size ≤ b) (o : Nat) (v : Value) : V.grownBy (w1.setCell ⟨T, o, none⟩ v) (some T) where
  os := hg.os.trans h.os
  tape := hg.tape.trans h.tape
  output := hg.output.trans h.output
  size := Nat.le_trans h.size (Nat.le_trans (by simp) (Nat.le_trans hg.size (by simp [World.setCell])))
  block i hi hne := by
    refine (Below.heap_setCell _ _ _ _ (fun e => hne (congrArg some e))).trans ?_
    refine (hg.block i (Nat.lt_of_lt_of_le hi (Nat.le_trans h.size (by simp))) (fun e => by have := hr i e.symm; omega)).trans ?_
    exact (Below.heap_alloc _ _ _ (Nat.lt_of_lt_of_le hi h.size)).trans (h.block i hi hne)

theorem OwnI.al {base : Nat} {W : World} {v : Value} {zs : List Int} {X : Obj} (h : OwnI base W v zs) : OwnI base (W.alloc X) v zs := World.ownsRow.alloc h X
theorem OwnB.al {base : Nat} {W : World} {v : Value} {zs : List Bool} {X : Obj} (h : OwnB base W v zs) : OwnB base (W.alloc X) v zs := World.ownsRow.alloc h X
theorem OwnI.dr {base : Nat} {W : World} {v : Value} {zs : List Int} (h : OwnI base W v zs) : OwnI base W.drew v zs := h
theorem OwnB.dr {base : Nat} {W : World} {v : Value} {zs : List Bool} (h : OwnB base W v zs) : OwnB base W.drew v zs := h
theorem ownI_made' (W : World) (n base g : Nat) (h : n ≤ 100000) (hb : base ≤ W.heap.size) (hg : g = W.heap.size) : OwnI base (W.alloc (.cells (madeCells #[.int .i64 0] n) 3)) (.slice (some ⟨g, 0, none⟩) n n) (List.replicate n 0) := by subst hg; exact ownI_made W n base h hb
theorem ownB_made' (W : World) (n base g : Nat) (h : n ≤ 100000) (hb : base ≤ W.heap.size) (hg : g = W.heap.size) : OwnB base (W.alloc (.cells (madeCells #[.bool false] n) 4)) (.slice (some ⟨g, 0, none⟩) n n) (List.replicate n false) := by subst hg; exact ownB_made W n base h hb

theorem OwnI.far {base g n c T : Nat} {W W' : World} {zs : List Int} (h : OwnI base W (.slice (some ⟨g, 0, none⟩) n c) zs) (hg : W.grownBy W' (some T)) (hne : g ≠ T) : OwnI base W' (.slice (some ⟨g, 0, none⟩) n c) zs := World.ownsRow.kept h hg (.inr fun e => hne (Option.some.inj e))
theorem OwnB.far {base g n c T : Nat} {W W' : World} {zs : List Bool} (h : OwnB base W (.slice (some ⟨g, 0, none⟩) n c) zs) (hg : W.grownBy W' (some T)) (hne : g ≠ T) : OwnB base W' (.slice (some ⟨g, 0, none⟩) n c) zs := World.ownsRow.kept h hg (.inr fun e => hne (Option.some.inj e))
theorem OwnI.set3 {base B2 : Nat} {W : World} {v : Value} {zs : List Int} (h : OwnI base W v zs) (h2 : B2 < base) (v0 v1 v2 : Value) : OwnI base (((W.setCell ⟨B2, 0, none⟩ v0).setCell ⟨B2, 1, none⟩ v1).setCell ⟨B2, 2, none⟩ v2) v zs := ((h.set h2).set h2).set h2
theorem OwnB.set3 {base B2 : Nat} {W : World} {v : Value} {zs : List Bool} (h : OwnB base W v zs) (h2 : B2 < base) (v0 v1 v2 : Value) : OwnB base (((W.setCell ⟨B2, 0, none⟩ v0).setCell ⟨B2, 1, none⟩ v1).setCell ⟨B2, 2, none⟩ v2) v zs := ((h.set h2).set h2).set h2

/-- What stands behind the literal. -/
structure Laid (w : World) (n T g1 g2 : Nat) (V : World) : Prop where
  t0 : V.cell? ⟨T, 0, none⟩ = some (.slice (some ⟨g1, 0, none⟩) n n)
  t1 : V.cell? ⟨T, 1, none⟩ = some (.slice (some ⟨g2, 0, none⟩) n n)
  t2 : V.cell? ⟨T, 2, none⟩ = some (.slice none 0 0)
  f2 : V.frozen? ⟨T, 2, none⟩ = false
  o1 : OwnI (w.heap.size + 1) V (.slice (some ⟨g1, 0, none⟩) n n) (List.replicate n 0)
  o2 : OwnB (w.heap.size + 1) V (.slice (some ⟨g2, 0, none⟩) n n) (List.replicate n false)
  n1 : g1 ≠ T
  n2 : g2 ≠ T
  lt : w.heap.size < T
  r : Fr3 w.heap.size V
  b : Below w.heap.size w V

set_option maxRecDepth 100000 in
set_option maxHeartbeats 2000000 in
theorem new_ok (n : Nat) (h1 : 1 ≤ n) (h2 : n ≤ 64) (w : World) :
    Calls Try.prog 11 #[.int .i64 n] w fun e w' => ∃ b1 b2 b3 d1 d2 d3, e = .returned (.tuple #[.agg #[.slice b1 n d1, .slice b2 n d2, .slice b3 n d3], .int .i64 0]) ∧
      SlotsAt w'.heap.size w' b1 b2 b3 (newS n).g (newS n).u (newS n).f ∧ Below w.heap.size w w' := by
  obtain ⟨i0, hi0, hz0, hz1, hz2⟩ := info_parts info3
  have hmI := make_ints n (by omega)
  have hmB := make_bools n (by omega)
  have i1 : ¬ (n : Int) < 1 := by omega
  have i2 : (n : Int) ≤ 64 := by omega
  go_enter Try.func11, Try.ntmps11
  go_upto_region 3 with fail
  go_cut [4] from 13 (fun t wx => ∃ T g1 g2, t = .pointer (some ⟨T, 0, none⟩) ∧ Laid w n T g1 g2 wx)
  case first =>
    go_region
    all_goals go_wp2_with fail
    all_goals
      go_meet
      first
        | exact ⟨w.heap.size + 1, w.heap.size + 1 + 1, w.heap.size + 1 + 1 + 1, rfl, (by go_simp), (by go_simp), (by go_simp), (by go_simp), OwnI.dr (OwnI.al (ownI_made' _ _ _ _ (by omega) (by simp) (by simp))), OwnB.dr (ownB_made' _ _ _ _ (by omega) (by simp) (by simp)), (by omega), (by omega), (by omega), (by constructor <;> go_simp), below_drew (((((Below.refl _ _).alloc (Nat.le_refl _) _).alloc (by simp) _).alloc (by simp; omega) _).alloc (by simp; omega) _)⟩
        | exact ⟨w.heap.size + 1, w.heap.size + 1 + 1 + 1, w.heap.size + 1 + 1, rfl, (by go_simp), (by go_simp), (by go_simp), (by go_simp), OwnI.dr (ownI_made' _ _ _ _ (by omega) (by simp) (by simp)), OwnB.dr (OwnB.al (ownB_made' _ _ _ _ (by omega) (by simp) (by simp))), (by omega), (by omega), (by omega), (by constructor <;> go_simp), below_drew (((((Below.refl _ _).alloc (Nat.le_refl _) _).alloc (by simp) _).alloc (by simp; omega) _).alloc (by simp; omega) _)⟩
        | exact ⟨w.heap.size + 1 + 1, w.heap.size + 1, w.heap.size + 1 + 1 + 1, rfl, (by go_simp), (by go_simp), (by go_simp), (by go_simp), OwnI.dr (OwnI.al (OwnI.al (ownI_made' _ _ _ _ (by omega) (by simp) (by simp)))), OwnB.dr (ownB_made' _ _ _ _ (by omega) (by simp) (by simp)), (by omega), (by omega), (by omega), (by constructor <;> go_simp), below_drew (((((Below.refl _ _).alloc (Nat.le_refl _) _).alloc (by simp) _).alloc (by simp; omega) _).alloc (by simp; omega) _)⟩
        | exact ⟨w.heap.size + 1 + 1, w.heap.size + 1 + 1 + 1, w.heap.size + 1, rfl, (by go_simp), (by go_simp), (by go_simp), (by go_simp), OwnI.dr (ownI_made' _ _ _ _ (by omega) (by simp) (by simp)), OwnB.dr (OwnB.al (OwnB.al (ownB_made' _ _ _ _ (by omega) (by simp) (by simp)))), (by omega), (by omega), (by omega), (by constructor <;> go_simp), below_drew (((((Below.refl _ _).alloc (Nat.le_refl _) _).alloc (by simp) _).alloc (by simp; omega) _).alloc (by simp; omega) _)⟩
        | exact ⟨w.heap.size + 1 + 1 + 1, w.heap.size + 1, w.heap.size + 1 + 1, rfl, (by go_simp), (by go_simp), (by go_simp), (by go_simp), OwnI.dr (OwnI.al (OwnI.al (ownI_made' _ _ _ _ (by omega) (by simp) (by simp)))), OwnB.dr (OwnB.al (ownB_made' _ _ _ _ (by omega) (by simp) (by simp))), (by omega), (by omega), (by omega), (by constructor <;> go_simp), below_drew (((((Below.refl _ _).alloc (Nat.le_refl _) _).alloc (by simp) _).alloc (by simp; omega) _).alloc (by simp; omega) _)⟩
        | exact ⟨w.heap.size + 1 + 1 + 1, w.heap.size + 1 + 1, w.heap.size + 1, rfl, (by go_simp), (by go_simp), (by go_simp), (by go_simp), OwnI.dr (OwnI.al (ownI_made' _ _ _ _ (by omega) (by simp) (by simp))), OwnB.dr (OwnB.al (OwnB.al (ownB_made' _ _ _ _ (by omega) (by simp) (by simp)))), (by omega), (by omega), (by omega), (by constructor <;> go_simp), below_drew (((((Below.refl _ _).alloc (Nat.le_refl _) _).alloc (by simp) _).alloc (by simp; omega) _).alloc (by simp; omega) _)⟩
  case rest =>
    obtain ⟨T, g1, g2, rfl, hL⟩ := hcut
    have LL := Lib.hid hL
    have t0 := hL.t0
    have t1 := hL.t1
    have t2 := hL.t2
    have f2 := hL.f2
    have hTV : T < wc.heap.size := blt t0
    have h00 : w.heap.size < T := hL.lt
    clear hL hmI hmB
    generalize wc = V at *
    go_wp2_with fail
    go_loopw [5] (fun i wr => ∃ (k : Nat) (v3 : Value), k ≤ n ∧ i = .int .i64 ((n : Int) - 1 - (k : Int)) ∧ V.grownBy wr (some T) ∧ wr.cell? ⟨T, 0, none⟩ = some (.slice (some ⟨g1, 0, none⟩) n n) ∧ wr.cell? ⟨T, 1, none⟩ = some (.slice (some ⟨g2, 0, none⟩) n n) ∧
        wr.cell? ⟨T, 2, none⟩ = some v3 ∧ wr.frozen? ⟨T, 2, none⟩ = false ∧ OwnI V.heap.size wr v3 (frees n k)) (fun i _ => (intOf i + 1).toNat)
    case atStart => exact ⟨0, _, Nat.zero_le _, by simp, ⟨rfl, rfl, rfl, Nat.le_refl _, fun _ _ _ => rfl⟩, t0, t1, t2, f2, World.ownsRow_nil _ _ _ _⟩
    case round =>
      clear t0 t1 t2 f2
      obtain ⟨k, v3, hk, rfl, hg, c0, c1, c2, cf, ho⟩ := hrel
      obtain ⟨a3, d3, rfl, _⟩ := ho.form
      rw [frees_length] at c2 ho
      have hTr : T < wr.heap.size := blt c0
      have hVr := hg.size
      have HO := Lib.hid (show wr.ownsRow V.heap.size 3 1 (.slice a3 k d3) k (intVs (frees n k)) by have := ho; unfold OwnI at this; rwa [frees_length] at this)
      have HOO := Lib.hid ho
      have HG := Lib.hid hg
      have hTo : Value.ownBlock (.slice a3 k d3) ≠ some T := fun e => by have := (ho.lt T e).1; omega
      have hlo : ∀ b, Value.ownBlock (.slice a3 k d3) = some b → V.heap.size ≤ b := fun b e => (ho.lt b e).1
      clear ho hg
      by_cases hlt : k < n
      · obtain ⟨p, hp⟩ : ∃ p : Int, p = (n : Int) - 1 - (k : Int) := ⟨_, rfl⟩
        rw [← hp]
        have hp0 : 0 ≤ p := by omega
        have hp1 : p ≤ 64 := by omega
        have HP := Lib.hid hp
        have hz : (0 : Int) ≤ p := hp0
        clear hp
        go_wp2_with (refine wpList_append_lies _ rfl _ _ _ rfl V.heap.size 3 i0 _ 1 8 Try.underlying22 hi0 hz0 hz1 hz2 rfl (by omega) (.slice a3 k d3) k (intVs (frees n k)) rfl (HO.out.alloc _) ⟨wr.heap.size, 0, none⟩ 1 1 [.int .i64 p] rfl (by rfl) (cell_one_new _ _ _) (by simp [Value.oneCell']) (by omega) (by simp [maxLen]; omega) (by omega) (by simp; omega) _ rfl ?_; intro gg cap1 w5 hown hgrow hat hlt5; have HOW := Lib.hid hown; have HGW := Lib.hid hgrow; clear hown hgrow hat; have y0 := (HGW.out.cell_far ⟨T, 0, none⟩ (by simp; omega) hTo.symm).trans (keep_alloc _ c0); have y1 := (HGW.out.cell_far ⟨T, 1, none⟩ (by simp; omega) hTo.symm).trans (keep_alloc _ c1); have y2 := (HGW.out.cell_far ⟨T, 2, none⟩ (by simp; omega) hTo.symm).trans (keep_alloc _ c2); have yf2 := (HGW.out.frozen_far ⟨T, 2, none⟩ (by simp; omega) hTo.symm).trans (keep_alloc_f _ c2 cf))
        have HN := Lib.hid (show OwnI V.heap.size w5 (.slice (some ⟨gg, 0, none⟩) (k + 1) cap1) (frees n (k + 1)) by
          unfold OwnI
          rw [frees_length, frees_succ, ← HP.out]
          simpa [intVs] using HOW.out)
        have HK := Lib.hid (grow_step HG.out HGW.out hlo 2 (.slice (some ⟨gg, 0, none⟩) (k + 1) cap1))
        have hgT : gg ≠ T := fun e => by have := (HN.out.lt gg rfl).1; omega
        go_roundw
        case rel => exact ⟨k + 1, _, by omega, by rw [HP.out]; congr 1; omega, HK.out, (World.cell?_setCell_other _ _ _ _ (by simp)).trans y0, (World.cell?_setCell_other _ _ _ _ (by simp)).trans y1, World.cell?_setCell_same' _ _ _ (by rw [y2]; rfl), (World.frozen?_setCell ..).trans yf2, HN.out.set_ne hgT⟩
        case measure => simp [intOf]; omega
      · obtain rfl : k = n := by omega
        have hm1 : (k : Int) - 1 - (k : Int) = -1 := by omega
        rw [hm1]
        have hne0 : Value.ownBlock (.slice a3 k d3) ≠ some w.heap.size := fun e => by have := hlo _ e; omega
        have hwV : w.heap.size < V.heap.size := by omega
        obtain ⟨e0, e1, e2, f0, f1, f3⟩ := LL.out.r.far HG.out hwV (fun e => by cases e; omega)
        have hwT : w.heap.size ≠ T := by omega
        have P1 := Lib.hid (OwnI.at' ((LL.out.o1.far HG.out LL.out.n1).set3 (B2 := w.heap.size) (by omega) (.slice (some ⟨g1, 0, none⟩) k k) (.slice (some ⟨g2, 0, none⟩) k k) (.slice a3 k d3)))
        have P2 := Lib.hid (OwnB.at' ((LL.out.o2.far HG.out LL.out.n2).set3 (B2 := w.heap.size) (by omega) (.slice (some ⟨g1, 0, none⟩) k k) (.slice (some ⟨g2, 0, none⟩) k k) (.slice a3 k d3)))
        have P3 := Lib.hid (OwnI.at' (HOO.out.set3 (B2 := w.heap.size) (by omega) (.slice (some ⟨g1, 0, none⟩) k k) (.slice (some ⟨g2, 0, none⟩) k k) (.slice a3 k d3)))
        have P4 := Lib.hid (below_set3 (LL.out.b.grown HG.out (by omega) (fun b e => by cases e; omega)) (Nat.le_refl w.heap.size) (.slice (some ⟨g1, 0, none⟩) k k) (.slice (some ⟨g2, 0, none⟩) k k) (.slice a3 k d3))
        go_wp2
        refine bodyPost_ret (v := .tuple #[.agg #[.slice (some ⟨g1, 0, none⟩) k k, .slice (some ⟨g2, 0, none⟩) k k, .slice a3 k d3], .int .i64 0]) (by simp [results, Try.results11, go_sem, e0, e1, e2]) rfl ⟨_, _, _, _, _, _, rfl, ⟨P1.out, P2.out, P3.out⟩, P4.out⟩
end Go.Proofs.Ytbalebnhjpjhgaa.L9

/- Cut. -/
namespace Go.Proofs.Ytbalebnhjpjhgaa.L9
open Go.RowKit

/-- The first sixty-six of each list. -/
def Sl.cut (s : Sl) : Sl := ⟨s.g.take 66, s.u.take 66, s.f.take 66⟩
theorem IntsAt.take {n₀ : Nat} {W : World} {a : Option Addr} {zs : List Int} (h : IntsAt n₀ W a zs) (k : Nat) : IntsAt n₀ W a (zs.take k) := fun i hi => by
  obtain ⟨b, off, e, hb, hc⟩ := h i (by simp at hi; omega)
  exact ⟨b, off, e, hb, by rw [hc, List.getElem_take]⟩
theorem BoolsAt.take {n₀ : Nat} {W : World} {a : Option Addr} {zs : List Bool} (h : BoolsAt n₀ W a zs) (k : Nat) : BoolsAt n₀ W a (zs.take k) := fun i hi => by
  obtain ⟨b, off, e, hb, hc⟩ := h i (by simp at hi; omega)
  exact ⟨b, off, e, hb, by rw [hc, List.getElem_take]⟩
theorem SlotsAt.cut {n₀ : Nat} {W : World} {a1 a2 a3 : Option Addr} {s : Sl} (h : SlotsAt n₀ W a1 a2 a3 s.g s.u s.f) : SlotsAt n₀ W a1 a2 a3 s.cut.g s.cut.u s.cut.f := ⟨h.g.take 66, h.u.take 66, h.f.take 66⟩

set_option maxRecDepth 100000 in
set_option maxHeartbeats 4000000 in
theorem cut_raw (a1 a2 a3 : Option Addr) (c1 c2 c3 L1 L2 L3 m1 m2 m3 : Nat) (h1 : m1 = min L1 66) (h2 : m2 = min L2 66) (h3 : m3 = min L3 66) (k1 : L1 ≤ c1) (k2 : L2 ≤ c2) (k3 : L3 ≤ c3) (w : World) :
    Calls Try.prog 10 #[.agg #[.slice a1 L1 c1, .slice a2 L2 c2, .slice a3 L3 c3]] w fun e w' => e = .returned (.agg #[.slice a1 m1 c1, .slice a2 m2 c2, .slice a3 m3 c3]) ∧ Below w.heap.size w w' := by
  have p1 : (if (66 : Int) < (L1 : Int) then (66 : Int) else (L1 : Int)) = (m1 : Int) := by split <;> omega
  have p2 : (if (66 : Int) < (L2 : Int) then (66 : Int) else (L2 : Int)) = (m2 : Int) := by split <;> omega
  have p3 : (if (66 : Int) < (L3 : Int) then (66 : Int) else (L3 : Int)) = (m3 : Int) := by split <;> omega
  have q1 : (m1 : Int) ≤ (c1 : Int) := by omega
  have q2 : (m2 : Int) ≤ (c2 : Int) := by omega
  have q3 : (m3 : Int) ≤ (c3 : Int) := by omega
  clear h1 h2 h3 k1 k2 k3
  go_enter Try.func10, Try.ntmps10
  go_wp2_with fail
  obtain ⟨V, hV⟩ : ∃ V, V = ((w.alloc (.cells #[.slice a1 L1 c1, .slice a2 L2 c2, .slice a3 L3 c3] 25)).alloc (.cells #[.slice none 0 0, .slice none 0 0, .slice none 0 0] 25)) := ⟨_, rfl⟩
  rw [← hV]
  have t0 : V.cell? ⟨w.heap.size, 0, none⟩ = some (.slice a1 L1 c1) := by rw [hV]; go_simp
  have t1 : V.cell? ⟨w.heap.size, 1, none⟩ = some (.slice a2 L2 c2) := by rw [hV]; go_simp
  have t2 : V.cell? ⟨w.heap.size, 2, none⟩ = some (.slice a3 L3 c3) := by rw [hV]; go_simp
  have hr : Fr3 (w.heap.size + 1) V := by rw [hV]; simpa using Fr3.new (w.alloc (.cells #[.slice a1 L1 c1, .slice a2 L2 c2, .slice a3 L3 c3] 25)) 25
  have hb : Below w.heap.size w V := by rw [hV]; exact ((Below.refl _ _).alloc (Nat.le_refl _) _).alloc (by simp) _
  obtain ⟨e0, e1, e2, f0, f1, f2⟩ := hr
  clear hV
  go_still_tail 22, (by kernel_rfl)
  change wpList _ _ _ _ _ V.drew
  go_wp2
  refine bodyPost_ret (v := .agg #[.slice a1 m1 c1, .slice a2 m2 c2, .slice a3 m3 c3]) (by simp [results, Try.results10, go_sem, e0, e1, e2]) rfl ⟨rfl, ?_⟩
  exact below_drew (below_set3 hb (by omega) _ _ _)
end Go.Proofs.Ytbalebnhjpjhgaa.L9

/- New, Take, Give, by what they are to answer. -/
namespace Go.Proofs.Ytbalebnhjpjhgaa.L9
open Go.RowKit

def nilS : Sl := ⟨[], [], []⟩
def newE (n : Int) : Sl × Int := if 1 ≤ n ∧ n ≤ 64 then (newS n.toNat, 0) else (nilS, 2)
def Sl.take (s : Sl) : Sl × (Int × Int) × Int :=
  if s.right = true then
    match s.f.getLast? with
    | none => (nilS, (0, 0), 92)
    | some p => if s.g[p.toNat]?.getD 0 = 1000000000 then (nilS, (0, 0), 92) else (⟨s.g.set p.toNat (s.g[p.toNat]?.getD 0 + 1), s.u.set p.toNat true, s.f.dropLast⟩, (p, s.g[p.toNat]?.getD 0 + 1), 0)
  else (nilS, (0, 0), 90)
def Sl.give (s : Sl) (h : Int × Int) : Sl × Int :=
  if s.right = true then if s.valid h = true then (⟨s.g, s.u.set h.1.toNat false, s.f ++ [h.1]⟩, 0) else (nilS, 91) else (nilS, 90)

theorem nil_at (n : Nat) (W : World) (a1 a2 a3 : Option Addr) : SlotsAt n W a1 a2 a3 nilS.g nilS.u nilS.f := ⟨IntsAt.nil _ _ _, BoolsAt.nil _ _ _, IntsAt.nil _ _ _⟩

theorem take_to (a1 a2 a3 : Option Addr) (c1 c2 c3 L1 L2 L3 : Nat) (s : Sl) (h1 : s.g.length = L1) (h2 : s.u.length = L2) (h3 : s.f.length = L3) (t : Sl) (p g er : Int) (ht : s.take = (t, (p, g), er)) (M1 M2 M3 : Nat) (m1 : t.g.length = M1) (m2 : t.u.length = M2) (m3 : t.f.length = M3)
    (w : World) (h : SlotsAt w.heap.size w a1 a2 a3 s.g s.u s.f) :
    Calls Try.prog 22 #[.agg #[.slice a1 L1 c1, .slice a2 L2 c2, .slice a3 L3 c3]] w fun e w' => ∃ b1 b2 b3 d1 d2 d3, e = .returned (.tuple #[.agg #[.slice b1 M1 d1, .slice b2 M2 d2, .slice b3 M3 d3], .agg #[.int .i64 p, .int .i64 g], .int .i64 er]) ∧
      SlotsAt w'.heap.size w' b1 b2 b3 t.g t.u t.f ∧ M3 ≤ d3 ∧ Below w.heap.size w w' := by
  unfold Sl.take at ht
  cases hr : s.right with
  | false =>
    rw [hr] at ht
    simp only [Bool.false_eq_true, if_false, Prod.mk.injEq] at ht
    obtain ⟨rfl, ⟨rfl, rfl⟩, rfl⟩ := ht
    simp only [nilS, List.length_nil] at m1 m2 m3
    subst m1 m2 m3
    refine (take_wrong a1 a2 a3 c1 c2 c3 L1 L2 L3 s h1 h2 h3 w h hr).mono ?_
    rintro e w' ⟨rfl, hb⟩
    exact ⟨_, _, _, _, _, _, rfl, nil_at _ _ _ _ _, Nat.le_refl _, hb⟩
  | true =>
    rw [hr] at ht
    simp only [if_true] at ht
    have R := (right_iff s).1 hr
    cases hl : s.f.getLast? with
    | none =>
      rw [hl] at ht
      simp only [Prod.mk.injEq] at ht
      obtain ⟨rfl, ⟨rfl, rfl⟩, rfl⟩ := ht
      simp only [nilS, List.length_nil] at m1 m2 m3
      subst m1 m2 m3
      have hf : s.f = [] := List.getLast?_eq_none_iff.1 hl
      have : L3 = 0 := by rw [← h3, hf]; rfl
      subst this
      refine (take_none a1 a2 a3 c1 c2 c3 L1 L2 s h1 h2 hf w h hr).mono ?_
      rintro e w' ⟨rfl, hb⟩
      exact ⟨_, _, _, _, _, _, rfl, nil_at _ _ _ _ _, Nat.le_refl _, hb⟩
    | some x =>
      rw [hl] at ht
      obtain ⟨fs, hf⟩ : ∃ fs, s.f = fs ++ [x] := List.getLast?_eq_some_iff.1 hl
      have hx := R.free x (by rw [hf]; simp)
      obtain ⟨k, rfl⟩ : ∃ k : Nat, x = k := ⟨x.toNat, by have := hx.1; omega⟩
      have hk : k < L1 := by have := hx.2.1; have := R.l3; omega
      obtain ⟨q, hq⟩ : ∃ q, s.g[k]? = some q := ⟨_, List.getElem?_eq_getElem (by omega)⟩
      simp only [Int.toNat_natCast, hq, Option.getD_some] at ht
      by_cases hm : q = 1000000000
      · subst hm
        simp only [if_true, Prod.mk.injEq] at ht
        obtain ⟨rfl, ⟨rfl, rfl⟩, rfl⟩ := ht
        simp only [nilS, List.length_nil] at m1 m2 m3
        subst m1 m2 m3
        refine (take_max a1 a2 a3 c1 c2 c3 L1 L2 L3 fs.length k s fs h1 h2 h3 hf rfl hk hq w h hr).mono ?_
        rintro e w' ⟨rfl, hb⟩
        exact ⟨_, _, _, _, _, _, rfl, nil_at _ _ _ _ _, Nat.le_refl _, hb⟩
      · simp only [hm, if_false, Prod.mk.injEq] at ht
        obtain ⟨rfl, ⟨rfl, rfl⟩, rfl⟩ := ht
        have hg := R.gen q (by obtain ⟨hj, e⟩ := List.getElem?_eq_some_iff.1 hq; rw [← e]; exact List.getElem_mem hj)
        have hdl : s.f.dropLast = fs := by rw [hf, List.dropLast_concat]
        simp only [hdl] at m3 ⊢
        simp only [List.length_set] at m1 m2
        have e1 : L1 = M1 := by omega
        have e2 : L2 = M2 := by omega
        subst e1 e2 m3
        refine (take_ok a1 a2 a3 c1 c2 c3 L1 L2 L3 fs.length k q s fs h1 h2 h3 hf rfl hk hq hg.1 (by omega) w h hr).mono ?_
        rintro e w' ⟨g1, g2, g3, d1, d2, rfl, hS, hb⟩
        exact ⟨_, _, _, _, _, _, rfl, hS, Nat.le_refl _, hb⟩

theorem give_to (a1 a2 a3 : Option Addr) (c1 c2 c3 L1 L2 L3 : Nat) (s : Sl) (h1 : s.g.length = L1) (h2 : s.u.length = L2) (h3 : s.f.length = L3) (p g : Int) (t : Sl) (er : Int) (ht : s.give (p, g) = (t, er)) (M1 M2 M3 : Nat) (m1 : t.g.length = M1) (m2 : t.u.length = M2) (m3 : t.f.length = M3)
    (w : World) (h : SlotsAt w.heap.size w a1 a2 a3 s.g s.u s.f) :
    Calls Try.prog 24 #[.agg #[.slice a1 L1 c1, .slice a2 L2 c2, .slice a3 L3 c3], .agg #[.int .i64 p, .int .i64 g]] w fun e w' => ∃ b1 b2 b3 d1 d2 d3, e = .returned (.tuple #[.agg #[.slice b1 M1 d1, .slice b2 M2 d2, .slice b3 M3 d3], .int .i64 er]) ∧
      SlotsAt w'.heap.size w' b1 b2 b3 t.g t.u t.f ∧ Below w.heap.size w w' := by
  unfold Sl.give at ht
  cases hr : s.right with
  | false =>
    rw [hr] at ht
    simp only [Bool.false_eq_true, if_false, Prod.mk.injEq] at ht
    obtain ⟨rfl, rfl⟩ := ht
    simp only [nilS, List.length_nil] at m1 m2 m3
    subst m1 m2 m3
    refine (give_wrong a1 a2 a3 c1 c2 c3 L1 L2 L3 s p g h1 h2 h3 w h hr).mono ?_
    rintro e w' ⟨rfl, hb⟩
    exact ⟨_, _, _, _, _, _, rfl, nil_at _ _ _ _ _, hb⟩
  | true =>
    rw [hr] at ht
    simp only [if_true] at ht
    cases hv : s.valid (p, g) with
    | false =>
      rw [hv] at ht
      simp only [Bool.false_eq_true, if_false, Prod.mk.injEq] at ht
      obtain ⟨rfl, rfl⟩ := ht
      simp only [nilS, List.length_nil] at m1 m2 m3
      subst m1 m2 m3
      refine (give_old a1 a2 a3 c1 c2 c3 L1 L2 L3 s p g h1 h2 h3 w h hr hv).mono ?_
      rintro e w' ⟨rfl, hb⟩
      exact ⟨_, _, _, _, _, _, rfl, nil_at _ _ _ _ _, hb⟩
    | true =>
      rw [hv] at ht
      simp only [if_true, Prod.mk.injEq] at ht
      obtain ⟨rfl, rfl⟩ := ht
      have hlive : Live s (p, g) := by
        unfold Sl.valid at hv
        exact of_decide_eq_true (Bool.and_eq_true _ _ ▸ hv : _ ∧ _).2
      obtain ⟨k, rfl⟩ : ∃ k : Nat, p = k := ⟨p.toNat, by have := hlive.1; simp only at this; omega⟩
      simp only [List.length_set, List.length_append, List.length_cons, List.length_nil, Int.toNat_natCast] at *
      have e1 : L1 = M1 := by omega
      have e2 : L2 = M2 := by omega
      have e3 : L3 + 1 = M3 := by omega
      subst e1 e2 e3
      exact give_ok a1 a2 a3 c1 c2 c3 L1 L2 L3 k s g h1 h2 h3 w h hr hv

theorem new_to (n : Int) (t : Sl) (er : Int) (ht : newE n = (t, er)) (M1 M2 M3 : Nat) (m1 : t.g.length = M1) (m2 : t.u.length = M2) (m3 : t.f.length = M3) (w : World) :
    Calls Try.prog 11 #[.int .i64 n] w fun e w' => ∃ b1 b2 b3 d1 d2 d3, e = .returned (.tuple #[.agg #[.slice b1 M1 d1, .slice b2 M2 d2, .slice b3 M3 d3], .int .i64 er]) ∧
      SlotsAt w'.heap.size w' b1 b2 b3 t.g t.u t.f ∧ Below w.heap.size w w' := by
  unfold newE at ht
  by_cases h : 1 ≤ n ∧ n ≤ 64
  · rw [if_pos h] at ht
    simp only [Prod.mk.injEq] at ht
    obtain ⟨rfl, rfl⟩ := ht
    obtain ⟨k, rfl⟩ : ∃ k : Nat, n = k := ⟨n.toNat, by omega⟩
    simp only [newS, Int.toNat_natCast, List.length_replicate, frees_length] at m1 m2 m3
    subst m1 m2 m3
    exact new_ok k (by omega) (by omega) w
  · rw [if_neg h] at ht
    simp only [Prod.mk.injEq] at ht
    obtain ⟨rfl, rfl⟩ := ht
    simp only [nilS, List.length_nil] at m1 m2 m3
    subst m1 m2 m3
    refine (new_wrong n w (by omega)).mono ?_
    rintro e w' ⟨rfl, hb⟩
    exact ⟨_, _, _, _, _, _, rfl, nil_at _ _ _ _ _, hb⟩
end Go.Proofs.Ytbalebnhjpjhgaa.L9

/- The document's Ints; slices.Equal. -/
namespace Go.Proofs.Ytbalebnhjpjhgaa.L9
open Go.RowKit Go.Shelf
attribute [local go_sem] Oper.semAt_some
set_option linter.unusedSimpArgs false
set_option linter.unusedVariables false
set_option maxRecDepth 100000 in
set_option maxHeartbeats 4000000 in
theorem rints_c (a b : Option Addr) (c d : Nat) (xs ys : List Int) (w : World) (hx : xs.length ≤ 1000) (hy : ys.length ≤ 1000) (hA : IntsAt w.heap.size w a xs) (hB : IntsAt w.heap.size w b ys) :
    Calls Try.prog 26 #[.slice a xs.length c, .slice b ys.length d] w fun e w' => e = .returned (.bool (decide (xs = ys))) ∧ Below w.heap.size w w' := by
  by_cases hl : xs.length = ys.length
  · have HA := Lib.hid hA
    have HB := Lib.hid hB
    have HL := Lib.hid hl
    clear hA hB
    rw [← hl]
    clear hl hy
    obtain ⟨N, hN⟩ : ∃ N, xs.length = N := ⟨_, rfl⟩
    have HN := Lib.hid hN
    rw [hN] at hx ⊢
    clear hN
    go_enter Try.func26, Try.ntmps26
    go_wp2
    go_loopw [5] (fun i wr => Hid (Below w.heap.size w wr) ∧ ∃ k : Nat, k ≤ N ∧ i = .int .i64 (k : Int) ∧ xs.take k = ys.take k) (fun i _ => N - (intOf i).toNat)
    case atStart => exact ⟨Lib.hid (Below.refl _ _), 0, Nat.zero_le _, rfl, rfl⟩
    case round =>
      obtain ⟨HW, k, hk, rfl, ht⟩ := hrel
      by_cases hlt : k < N
      · have hkx : k < xs.length := by have := HN.out; omega
        have hky : k < ys.length := by have := HN.out; have := HL.out; omega
        obtain ⟨b1, o1, rfl, _, p1⟩ := (HA.out.below HW.out) k hkx
        obtain ⟨b2, o2, rfl, _, p2⟩ := (HB.out.below HW.out) k hky
        have hlt' : (k : Int) < (N : Int) := by omega
        have HT := Lib.hid ht
        have HS := Lib.hid (And.intro (List.take_succ_eq_append_getElem (l := xs) hkx) (List.take_succ_eq_append_getElem (l := ys) hky))
        have HG := Lib.hid (show xs[k] ≠ ys[k] → xs ≠ ys from fun h e => h (by subst e; rfl))
        generalize xs[k] = x at *
        generalize ys[k] = y at *
        clear ht
        by_cases hxy : x = y
        · subst hxy
          go_wp2
          go_quiet (fail)
          go_wp2
          go_roundw
          case rel => exact ⟨Lib.hid (below_drewN HW.out _), k + 1, by omega, by go_num, by rw [HS.out.1, HS.out.2, HT.out]⟩
          case measure => simp [intOf]; omega
        · have HF := Lib.hid (HG.out hxy)
          have hxy' : (x == y) = false := by simpa using hxy
          go_wp2
          go_quiet (fail)
          go_wp2
          go_ret
          exact ⟨ret_bool (decide_eq_false HF.out).symm, below_drewN HW.out _⟩
      · obtain rfl : k = N := by omega
        have he : xs = ys := by
          have h1 := List.take_of_length_le (l := xs) (i := k) (by have := HN.out; omega)
          have h2 := List.take_of_length_le (l := ys) (i := k) (by have := HN.out; have := HL.out; omega)
          rw [← h1, ht, h2]
        have hlt' : ¬ (k : Int) < (k : Int) := by omega
        have HF := Lib.hid he
        clear he ht
        go_wp2
        go_ret
        exact ⟨ret_bool (decide_eq_true HF.out).symm, HW.out⟩
  · have hne : xs ≠ ys := fun e => hl (by rw [e])
    rw [decide_eq_false hne]
    clear hA hB hne
    generalize xs.length = N at *
    generalize ys.length = M at *
    have hl' : ¬ (N : Int) = (M : Int) := by omega
    have hl2 : (((N : Int) == (M : Int)) = false) := by simpa using hl'
    go_enter Try.func26, Try.ntmps26
    go_wp2
    go_ret
    exact ⟨rfl, Below.refl _ _⟩
set_option maxRecDepth 100000 in
set_option maxHeartbeats 4000000 in
theorem equalI_c (a b : Option Addr) (c d : Nat) (xs ys : List Int) (w : World) (hx : xs.length ≤ 1000) (hy : ys.length ≤ 1000) (hA : IntsAt w.heap.size w a xs) (hB : IntsAt w.heap.size w b ys) :
    Calls Try.prog 31 #[.slice a xs.length c, .slice b ys.length d] w fun e w' => e = .returned (.bool (decide (xs = ys))) ∧ Below w.heap.size w w' := by
  by_cases hl : xs.length = ys.length
  · have HA := Lib.hid hA
    have HB := Lib.hid hB
    have HL := Lib.hid hl
    clear hA hB
    rw [← hl]
    clear hl hy
    obtain ⟨N, hN⟩ : ∃ N, xs.length = N := ⟨_, rfl⟩
    have HN := Lib.hid hN
    rw [hN] at hx ⊢
    clear hN
    go_enter Try.func31, Try.ntmps31
    go_wp2
    go_loopw [13] (fun i wr => Hid (Below w.heap.size w wr) ∧ ∃ k : Nat, k ≤ N ∧ i = .int .i64 (k : Int) ∧ xs.take k = ys.take k) (fun i _ => N - (intOf i).toNat)
    case atStart => exact ⟨Lib.hid (Below.refl _ _), 0, Nat.zero_le _, rfl, rfl⟩
    case round =>
      obtain ⟨HW, k, hk, rfl, ht⟩ := hrel
      by_cases hlt : k < N
      · have hkx : k < xs.length := by have := HN.out; omega
        have hky : k < ys.length := by have := HN.out; have := HL.out; omega
        obtain ⟨b1, o1, rfl, _, p1⟩ := (HA.out.below HW.out) k hkx
        obtain ⟨b2, o2, rfl, _, p2⟩ := (HB.out.below HW.out) k hky
        have hlt' : (k : Int) < (N : Int) := by omega
        have HT := Lib.hid ht
        have HS := Lib.hid (And.intro (List.take_succ_eq_append_getElem (l := xs) hkx) (List.take_succ_eq_append_getElem (l := ys) hky))
        have HG := Lib.hid (show xs[k] ≠ ys[k] → xs ≠ ys from fun h e => h (by subst e; rfl))
        generalize xs[k] = x at *
        generalize ys[k] = y at *
        clear ht
        by_cases hxy : x = y
        · subst hxy
          go_wp2
          go_quiet (fail)
          go_wp2
          go_roundw
          case rel => exact ⟨Lib.hid (below_drewN HW.out _), k + 1, by omega, by go_num, by rw [HS.out.1, HS.out.2, HT.out]⟩
          case measure => simp [intOf]; omega
        · have HF := Lib.hid (HG.out hxy)
          have hxy' : (x == y) = false := by simpa using hxy
          go_wp2
          go_quiet (fail)
          go_wp2
          go_ret
          exact ⟨ret_bool (decide_eq_false HF.out).symm, below_drewN HW.out _⟩
      · obtain rfl : k = N := by omega
        have he : xs = ys := by
          have h1 := List.take_of_length_le (l := xs) (i := k) (by have := HN.out; omega)
          have h2 := List.take_of_length_le (l := ys) (i := k) (by have := HN.out; have := HL.out; omega)
          rw [← h1, ht, h2]
        have hlt' : ¬ (k : Int) < (k : Int) := by omega
        have HF := Lib.hid he
        clear he ht
        go_wp2
        go_ret
        exact ⟨ret_bool (decide_eq_true HF.out).symm, HW.out⟩
  · have hne : xs ≠ ys := fun e => hl (by rw [e])
    rw [decide_eq_false hne]
    clear hA hB hne
    generalize xs.length = N at *
    generalize ys.length = M at *
    have hl' : ¬ (N : Int) = (M : Int) := by omega
    have hl2 : (((N : Int) == (M : Int)) = false) := by simpa using hl'
    go_enter Try.func31, Try.ntmps31
    go_wp2
    go_ret
    exact ⟨rfl, Below.refl _ _⟩
set_option maxRecDepth 100000 in
set_option maxHeartbeats 4000000 in
theorem equalB_c (a b : Option Addr) (c d : Nat) (xs ys : List Bool) (w : World) (hx : xs.length ≤ 1000) (hy : ys.length ≤ 1000) (hA : BoolsAt w.heap.size w a xs) (hB : BoolsAt w.heap.size w b ys) :
    Calls Try.prog 32 #[.slice a xs.length c, .slice b ys.length d] w fun e w' => e = .returned (.bool (decide (xs = ys))) ∧ Below w.heap.size w w' := by
  by_cases hl : xs.length = ys.length
  · have HA := Lib.hid hA
    have HB := Lib.hid hB
    have HL := Lib.hid hl
    clear hA hB
    rw [← hl]
    clear hl hy
    obtain ⟨N, hN⟩ : ∃ N, xs.length = N := ⟨_, rfl⟩
    have HN := Lib.hid hN
    rw [hN] at hx ⊢
    clear hN
    go_enter Try.func32, Try.ntmps32
    go_wp2
    go_loopw [13] (fun i wr => Hid (Below w.heap.size w wr) ∧ ∃ k : Nat, k ≤ N ∧ i = .int .i64 (k : Int) ∧ xs.take k = ys.take k) (fun i _ => N - (intOf i).toNat)
    case atStart => exact ⟨Lib.hid (Below.refl _ _), 0, Nat.zero_le _, rfl, rfl⟩
    case round =>
      obtain ⟨HW, k, hk, rfl, ht⟩ := hrel
      by_cases hlt : k < N
      · have hkx : k < xs.length := by have := HN.out; omega
        have hky : k < ys.length := by have := HN.out; have := HL.out; omega
        obtain ⟨b1, o1, rfl, _, p1⟩ := (HA.out.below HW.out) k hkx
        obtain ⟨b2, o2, rfl, _, p2⟩ := (HB.out.below HW.out) k hky
        have hlt' : (k : Int) < (N : Int) := by omega
        have HT := Lib.hid ht
        have HS := Lib.hid (And.intro (List.take_succ_eq_append_getElem (l := xs) hkx) (List.take_succ_eq_append_getElem (l := ys) hky))
        have HG := Lib.hid (show xs[k] ≠ ys[k] → xs ≠ ys from fun h e => h (by subst e; rfl))
        generalize xs[k] = x at *
        generalize ys[k] = y at *
        clear ht
        by_cases hxy : x = y
        · subst hxy
          go_wp2
          go_quiet (fail)
          go_wp2
          go_roundw
          case rel => exact ⟨Lib.hid (below_drewN HW.out _), k + 1, by omega, by go_num, by rw [HS.out.1, HS.out.2, HT.out]⟩
          case measure => simp [intOf]; omega
        · have HF := Lib.hid (HG.out hxy)
          have hxy' : (x == y) = false := by cases x <;> cases y <;> simp at hxy ⊢
          go_wp2
          go_quiet (fail)
          go_wp2
          go_ret
          exact ⟨ret_bool (decide_eq_false HF.out).symm, below_drewN HW.out _⟩
      · obtain rfl : k = N := by omega
        have he : xs = ys := by
          have h1 := List.take_of_length_le (l := xs) (i := k) (by have := HN.out; omega)
          have h2 := List.take_of_length_le (l := ys) (i := k) (by have := HN.out; have := HL.out; omega)
          rw [← h1, ht, h2]
        have hlt' : ¬ (k : Int) < (k : Int) := by omega
        have HF := Lib.hid he
        clear he ht
        go_wp2
        go_ret
        exact ⟨ret_bool (decide_eq_true HF.out).symm, HW.out⟩
  · have hne : xs ≠ ys := fun e => hl (by rw [e])
    rw [decide_eq_false hne]
    clear hA hB hne
    generalize xs.length = N at *
    generalize ys.length = M at *
    have hl' : ¬ (N : Int) = (M : Int) := by omega
    have hl2 : (((N : Int) == (M : Int)) = false) := by simpa using hl'
    go_enter Try.func32, Try.ntmps32
    go_wp2
    go_ret
    exact ⟨rfl, Below.refl _ _⟩
end Go.Proofs.Ytbalebnhjpjhgaa.L9

/- wicketgatelaw09.shown: true. -/
namespace Go.Proofs.Ytbalebnhjpjhgaa.L9
open Go.RowKit

theorem bal {a W : World} (h : Below a.heap.size a W) (o : Obj) : Below a.heap.size a (W.alloc o) := h.alloc h.size o
theorem btr {a W W' : World} (h : Below a.heap.size a W) (k : Below W.heap.size W W') : Below a.heap.size a W' := h.trans (k.mono h.size)
instance : DecidableEq Sl := fun a b => decidable_of_iff (a.g = b.g ∧ a.u = b.u ∧ a.f = b.f) (by cases a; cases b; simp)
theorem OwnH.slice {base : Nat} {w : World} {v : Value} {l : List (Int × Int)} (h : OwnH base w v l) : ∃ cap a, v = .slice a l.length cap := by
  rcases h.2 with ⟨rfl, hn⟩ | ⟨g, cap, cur, rfl, _⟩
  · exact ⟨0, none, by rw [hn]⟩
  · exact ⟨cap, _, rfl⟩
def x1 : Sl := ⟨[0, 0], [false, false], [1, 0]⟩
def x2 : Sl := ⟨[1, 0], [true, false], [1]⟩
def x3 : Sl := ⟨[1, 1], [true, true], []⟩
def x4 : Sl := ⟨[1, 1], [false, true], [0]⟩
def x5 : Sl := ⟨[2, 1], [true, true], []⟩

set_option maxRecDepth 100000 in
set_option maxHeartbeats 4000000 in
theorem shown_any (w : World) :
    Calls Try.prog 9 #[] w fun e w' => e = .returned (.bool true) ∧ Below w.heap.size w w' := by
  have n1 : newE 2 = (x1, 0) := by decide +kernel
  have n2 : x1.take = (x2, (0, 1), 0) := by decide +kernel
  have n3 : x2.take = (x3, (1, 1), 0) := by decide +kernel
  have n4 : x3.give (0, 1) = (x4, 0) := by decide +kernel
  have n5 : x4.take = (x5, (0, 2), 0) := by decide +kernel
  have n6 : x5.take = (nilS, (0, 0), 92) := by decide +kernel
  have n7 : x5.give (0, 1) = (nilS, 91) := by decide +kernel
  have n8 : x5.all.length = 2 := by decide +kernel
  go_enter Try.func9, Try.ntmps9
  go_wp2_with fail
  refine (new_to 2 x1 0 n1 2 2 2 rfl rfl rfl w).mono ?_; rintro e w1 ⟨a1, b1, c1, d1, f1, g1, rfl, hS, hb⟩
  obtain ⟨hc1, hf1⟩ := bcell hb; have hz1 := hb.size; (try simp only [World.size_alloc] at hz1)
  have HB_w_w1 := Lib.hid (btr (Below.refl w.heap.size w) hb)
  clear hb
  have S1 := Lib.hid hS
  clear hS
  go_wp2_with fail
  refine (take_to _ _ _ _ _ _ 2 2 2 x1 rfl rfl rfl x2 0 1 0 n2 2 2 1 rfl rfl rfl _ (S1.out.on (bal (Below.refl w1.heap.size w1) _))).mono ?_; rintro e w2 ⟨a2, b2, c2, d2, f2, g2, rfl, hS, _, hb⟩
  obtain ⟨hc2, hf2⟩ := bcell hb; have hz2 := hb.size; (try simp only [World.size_alloc] at hz2)
  have HB_w_w2 := Lib.hid (btr (bal (HB_w_w1.out) _) hb)
  have HB_w1_w2 := Lib.hid (btr (bal (Below.refl w1.heap.size w1) _) hb)
  have lt0_w2 : w1.heap.size < w2.heap.size := by omega
  clear hb
  have S2 := Lib.hid hS
  clear hS
  go_wp2_with fail
  refine (take_to _ _ _ _ _ _ 2 2 1 x2 rfl rfl rfl x3 1 1 0 n3 2 2 0 rfl rfl rfl _ (S2.out.on (bal (bal (Below.refl w2.heap.size w2) _) _))).mono ?_; rintro e w3 ⟨a3, b3, c3, d3, f3, g3, rfl, hS, _, hb⟩
  obtain ⟨hc3, hf3⟩ := bcell hb; have hz3 := hb.size; (try simp only [World.size_alloc] at hz3)
  have HB_w_w3 := Lib.hid (btr (bal (bal (HB_w_w2.out) _) _) hb)
  have HB_w1_w3 := Lib.hid (btr (bal (bal (HB_w1_w2.out) _) _) hb)
  have HB_w2_w3 := Lib.hid (btr (bal (bal (Below.refl w2.heap.size w2) _) _) hb)
  have lt0_w3 : w1.heap.size < w3.heap.size := by omega
  have lt1_w3 : w2.heap.size < w3.heap.size := by omega
  have lt2_w3 : w2.heap.size + 1 < w3.heap.size := by omega
  clear hb
  have S3 := Lib.hid hS
  clear hS
  go_wp2_with fail
  refine (give_to _ _ _ _ _ _ 2 2 0 x3 rfl rfl rfl 0 1 x4 0 n4 2 2 1 rfl rfl rfl _ (S3.out.on (bal (bal (Below.refl w3.heap.size w3) _) _))).mono ?_; rintro e w4 ⟨a4, b4, c4, d4, f4, g4, rfl, hS, hb⟩
  obtain ⟨hc4, hf4⟩ := bcell hb; have hz4 := hb.size; (try simp only [World.size_alloc] at hz4)
  have HB_w_w4 := Lib.hid (btr (bal (bal (HB_w_w3.out) _) _) hb)
  have HB_w1_w4 := Lib.hid (btr (bal (bal (HB_w1_w3.out) _) _) hb)
  have HB_w2_w4 := Lib.hid (btr (bal (bal (HB_w2_w3.out) _) _) hb)
  have HB_w3_w4 := Lib.hid (btr (bal (bal (Below.refl w3.heap.size w3) _) _) hb)
  have lt0_w4 : w1.heap.size < w4.heap.size := by omega
  have lt1_w4 : w2.heap.size < w4.heap.size := by omega
  have lt2_w4 : w2.heap.size + 1 < w4.heap.size := by omega
  have lt3_w4 : w3.heap.size < w4.heap.size := by omega
  have lt4_w4 : w3.heap.size + 1 < w4.heap.size := by omega
  clear hb
  have S4 := Lib.hid hS
  clear hS
  go_wp2_with fail
  refine (take_to _ _ _ _ _ _ 2 2 1 x4 rfl rfl rfl x5 0 2 0 n5 2 2 0 rfl rfl rfl _ (S4.out.on (bal (Below.refl w4.heap.size w4) _))).mono ?_; rintro e w5 ⟨a5, b5, c5, d5, f5, g5, rfl, hS, _, hb⟩
  obtain ⟨hc5, hf5⟩ := bcell hb; have hz5 := hb.size; (try simp only [World.size_alloc] at hz5)
  have HB_w_w5 := Lib.hid (btr (bal (HB_w_w4.out) _) hb)
  have HB_w1_w5 := Lib.hid (btr (bal (HB_w1_w4.out) _) hb)
  have HB_w2_w5 := Lib.hid (btr (bal (HB_w2_w4.out) _) hb)
  have HB_w3_w5 := Lib.hid (btr (bal (HB_w3_w4.out) _) hb)
  have HB_w4_w5 := Lib.hid (btr (bal (Below.refl w4.heap.size w4) _) hb)
  have lt0_w5 : w1.heap.size < w5.heap.size := by omega
  have lt1_w5 : w2.heap.size < w5.heap.size := by omega
  have lt2_w5 : w2.heap.size + 1 < w5.heap.size := by omega
  have lt3_w5 : w3.heap.size < w5.heap.size := by omega
  have lt4_w5 : w3.heap.size + 1 < w5.heap.size := by omega
  have lt5_w5 : w4.heap.size < w5.heap.size := by omega
  clear hb
  have S5 := Lib.hid hS
  clear hS
  go_wp2_with fail
  refine (take_to _ _ _ _ _ _ 2 2 0 x5 rfl rfl rfl nilS 0 0 92 n6 0 0 0 rfl rfl rfl _ (S5.out.on (bal (bal (Below.refl w5.heap.size w5) _) _))).mono ?_; rintro e w6 ⟨a6, b6, c6, d6, f6, g6, rfl, hS, _, hb⟩
  obtain ⟨hc6, hf6⟩ := bcell hb; have hz6 := hb.size; (try simp only [World.size_alloc] at hz6)
  have HB_w_w6 := Lib.hid (btr (bal (bal (HB_w_w5.out) _) _) hb)
  have HB_w1_w6 := Lib.hid (btr (bal (bal (HB_w1_w5.out) _) _) hb)
  have HB_w2_w6 := Lib.hid (btr (bal (bal (HB_w2_w5.out) _) _) hb)
  have HB_w3_w6 := Lib.hid (btr (bal (bal (HB_w3_w5.out) _) _) hb)
  have HB_w4_w6 := Lib.hid (btr (bal (bal (HB_w4_w5.out) _) _) hb)
  have HB_w5_w6 := Lib.hid (btr (bal (bal (Below.refl w5.heap.size w5) _) _) hb)
  have lt0_w6 : w1.heap.size < w6.heap.size := by omega
  have lt1_w6 : w2.heap.size < w6.heap.size := by omega
  have lt2_w6 : w2.heap.size + 1 < w6.heap.size := by omega
  have lt3_w6 : w3.heap.size < w6.heap.size := by omega
  have lt4_w6 : w3.heap.size + 1 < w6.heap.size := by omega
  have lt5_w6 : w4.heap.size < w6.heap.size := by omega
  have lt6_w6 : w5.heap.size < w6.heap.size := by omega
  have lt7_w6 : w5.heap.size + 1 < w6.heap.size := by omega
  clear hb
  clear hS
  have k0 : w6.cell? ⟨w5.heap.size, 0, none⟩ = some (.slice a5 2 d5) := (hc6 _ _ (by simp; omega)).trans (keep_alloc _ ((World.cell?_alloc_new w5 _ _ 0).trans rfl))
  have k1 : w6.cell? ⟨w5.heap.size, 1, none⟩ = some (.slice b5 2 f5) := (hc6 _ _ (by simp; omega)).trans (keep_alloc _ ((World.cell?_alloc_new w5 _ _ 1).trans rfl))
  have k2 : w6.cell? ⟨w5.heap.size, 2, none⟩ = some (.slice c5 0 g5) := (hc6 _ _ (by simp; omega)).trans (keep_alloc _ ((World.cell?_alloc_new w5 _ _ 2).trans rfl))
  go_wp2_with fail
  refine (give_to _ _ _ _ _ _ 2 2 0 x5 rfl rfl rfl 0 1 nilS 91 n7 0 0 0 rfl rfl rfl _ (S5.out.on (bal (bal (HB_w5_w6.out) _) _))).mono ?_; rintro e w7 ⟨a7, b7, c7, d7, f7, g7, rfl, hS, hb⟩
  obtain ⟨hc7, hf7⟩ := bcell hb; have hz7 := hb.size; (try simp only [World.size_alloc] at hz7)
  have HB_w_w7 := Lib.hid (btr (bal (bal (HB_w_w6.out) _) _) hb)
  have HB_w1_w7 := Lib.hid (btr (bal (bal (HB_w1_w6.out) _) _) hb)
  have HB_w2_w7 := Lib.hid (btr (bal (bal (HB_w2_w6.out) _) _) hb)
  have HB_w3_w7 := Lib.hid (btr (bal (bal (HB_w3_w6.out) _) _) hb)
  have HB_w4_w7 := Lib.hid (btr (bal (bal (HB_w4_w6.out) _) _) hb)
  have HB_w5_w7 := Lib.hid (btr (bal (bal (HB_w5_w6.out) _) _) hb)
  have HB_w6_w7 := Lib.hid (btr (bal (bal (Below.refl w6.heap.size w6) _) _) hb)
  have lt0_w7 : w1.heap.size < w7.heap.size := by omega
  have lt1_w7 : w2.heap.size < w7.heap.size := by omega
  have lt2_w7 : w2.heap.size + 1 < w7.heap.size := by omega
  have lt3_w7 : w3.heap.size < w7.heap.size := by omega
  have lt4_w7 : w3.heap.size + 1 < w7.heap.size := by omega
  have lt5_w7 : w4.heap.size < w7.heap.size := by omega
  have lt6_w7 : w5.heap.size < w7.heap.size := by omega
  have lt7_w7 : w5.heap.size + 1 < w7.heap.size := by omega
  have lt8_w7 : w6.heap.size < w7.heap.size := by omega
  have lt9_w7 : w6.heap.size + 1 < w7.heap.size := by omega
  clear hb
  clear hS
  have m0 := (hc7 _ _ (by simp; omega)).trans (keep_alloc _ (keep_alloc _ k0))
  have m1 := (hc7 _ _ (by simp; omega)).trans (keep_alloc _ (keep_alloc _ k1))
  have m2 := (hc7 _ _ (by simp; omega)).trans (keep_alloc _ (keep_alloc _ k2))
  go_wp2_with fail
  refine (all_any _ _ _ _ _ _ 2 2 0 x5 rfl rfl rfl _ (S5.out.on (bal (HB_w5_w7.out) _))).mono ?_; rintro e w8 ⟨v, rfl, ho, hb⟩
  obtain ⟨hc8, hf8⟩ := bcell hb; have hz8 := hb.size; (try simp only [World.size_alloc] at hz8)
  have HB_w_w8 := Lib.hid (btr (bal (HB_w_w7.out) _) hb)
  have HB_w1_w8 := Lib.hid (btr (bal (HB_w1_w7.out) _) hb)
  have HB_w2_w8 := Lib.hid (btr (bal (HB_w2_w7.out) _) hb)
  have HB_w3_w8 := Lib.hid (btr (bal (HB_w3_w7.out) _) hb)
  have HB_w4_w8 := Lib.hid (btr (bal (HB_w4_w7.out) _) hb)
  have HB_w5_w8 := Lib.hid (btr (bal (HB_w5_w7.out) _) hb)
  have HB_w6_w8 := Lib.hid (btr (bal (HB_w6_w7.out) _) hb)
  have HB_w7_w8 := Lib.hid (btr (bal (Below.refl w7.heap.size w7) _) hb)
  have lt0_w8 : w1.heap.size < w8.heap.size := by omega
  have lt1_w8 : w2.heap.size < w8.heap.size := by omega
  have lt2_w8 : w2.heap.size + 1 < w8.heap.size := by omega
  have lt3_w8 : w3.heap.size < w8.heap.size := by omega
  have lt4_w8 : w3.heap.size + 1 < w8.heap.size := by omega
  have lt5_w8 : w4.heap.size < w8.heap.size := by omega
  have lt6_w8 : w5.heap.size < w8.heap.size := by omega
  have lt7_w8 : w5.heap.size + 1 < w8.heap.size := by omega
  have lt8_w8 : w6.heap.size < w8.heap.size := by omega
  have lt9_w8 : w6.heap.size + 1 < w8.heap.size := by omega
  have lt10_w8 : w7.heap.size < w8.heap.size := by omega
  clear hb
  obtain ⟨cap, hv⟩ := ho.slice
  rw [n8] at hv
  obtain ⟨av, rfl⟩ := hv
  clear ho
  go_wp2
  go_ret
  exact ⟨rfl, HB_w_w8.out⟩
end Go.Proofs.Ytbalebnhjpjhgaa.L9

/- What slots that are taken and given back become, plainly. -/
namespace Go.Proofs.Ytbalebnhjpjhgaa.L9
open Go.RowKit

theorem takenUpto_length (g : List Int) (u : List Bool) (k : Nat) (hk : k ≤ u.length) : (takenUpto g u k).length = (u.take k).count true := by
  induction k with
  | zero => simp [takenUpto]
  | succ k ih =>
    rw [List.take_succ_eq_append_getElem (by omega), List.count_append, ← ih (by omega)]
    simp only [takenUpto, List.length_append]
    have hk' : k < u.length := by omega
    rw [List.getElem?_eq_getElem hk', Option.getD_some]
    cases u[k] <;> simp
theorem takenOf_length (g : List Int) (u : List Bool) : (takenOf g u).length = u.count true := by
  unfold takenOf
  rw [takenUpto_length g u _ (Nat.le_refl _), List.take_length]
theorem count_true (u : List Bool) (k : Nat) (h : u[k]? = some false) : (u.set k true).count true = u.count true + 1 := by
  obtain ⟨hk, e⟩ := List.getElem?_eq_some_iff.1 h
  rw [List.count_set hk, e]
  simp
theorem count_false (u : List Bool) (k : Nat) (h : u[k]? = some true) : (u.set k false).count true + 1 = u.count true := by
  obtain ⟨hk, e⟩ := List.getElem?_eq_some_iff.1 h
  have hp : 0 < u.count true := List.count_pos_iff.2 (e ▸ List.getElem_mem hk)
  rw [List.count_set hk, e]
  simp
  omega
theorem free_get {u : List Bool} {k : Nat} (h : isFree u (k : Int)) : u[k]? = some false := by
  have h1 := h.2.1
  have h2 := h.2.2
  simp only [Int.toNat_natCast] at h2
  rw [List.getElem?_eq_getElem (by omega)] at h2 ⊢
  simpa using h2

/-- Slots of which the last free one is taken. -/
def Sl.taken (s : Sl) (fs : List Int) (k : Nat) (q : Int) : Sl := ⟨s.g.set k (q + 1), s.u.set k true, fs⟩
def Sl.given (s : Sl) (k : Nat) : Sl := ⟨s.g, s.u.set k false, s.f ++ [(k : Int)]⟩

theorem taken_right {s : Sl} (R : RightS s) {fs : List Int} {k : Nat} {q : Int} (hf : s.f = fs ++ [(k : Int)]) (hq : s.g[k]? = some q) (hm : q < 1000000000) : RightS (s.taken fs k q) := by
  have hu := free_get (R.free k (by rw [hf]; simp))
  have hnd := R.nodup
  rw [hf, List.nodup_append] at hnd
  have hc := R.count
  rw [takenOf_length, hf, List.length_append] at hc
  have hq0 : 0 ≤ q := (R.gen q (by obtain ⟨hj, e⟩ := List.getElem?_eq_some_iff.1 hq; rw [← e]; exact List.getElem_mem hj)).1
  have h4 := R.l4
  rw [hf, List.length_append] at h4
  refine ⟨by simpa [Sl.taken] using R.l1, by simpa [Sl.taken] using R.l2, by simpa [Sl.taken] using R.l3, by simp [Sl.taken] at *; omega, ?_, ?_, hnd.1, ?_⟩
  · intro y hy
    rcases List.mem_or_eq_of_mem_set hy with h | rfl
    · exact R.gen y h
    · omega
  · intro x hx
    have hfx := R.free x (by rw [hf]; simp [show x ∈ fs from hx])
    have hne : x ≠ k := hnd.2.2 x hx k (by simp)
    refine ⟨hfx.1, by simpa [Sl.taken] using hfx.2.1, ?_⟩
    have : k ≠ x.toNat := by have := hfx.1; omega
    simp only [Sl.taken, List.getElem?_set_ne this]
    exact hfx.2.2
  · rw [takenOf_length]
    simp only [Sl.taken, List.length_set, count_true _ _ hu]
    simp at hc
    omega

theorem given_right {s : Sl} (R : RightS s) {k : Nat} (hu : s.u[k]? = some true) : RightS (s.given k) := by
  have hk := (List.getElem?_eq_some_iff.1 hu).1
  have hc := R.count
  rw [takenOf_length] at hc
  have hcf := count_false s.u k hu
  have hnk : (k : Int) ∉ s.f := fun h => by
    have := free_get (R.free k h)
    rw [hu] at this
    cases this
  have h3 := R.l3
  refine ⟨R.l1, R.l2, by simpa [Sl.given] using R.l3, ?_, R.gen, ?_, ?_, ?_⟩
  · simp [Sl.given]; omega
  · intro x hx
    have hx' : x = k ∨ isFree s.u x := by
      rcases List.mem_append.1 hx with h | h
      · exact .inr (R.free x h)
      · exact .inl (by simpa using h)
    by_cases e : x = k
    · subst e
      exact ⟨by omega, by simp [Sl.given]; omega, by simp [Sl.given, hk]⟩
    · have hfx := hx'.resolve_left e
      refine ⟨hfx.1, by simpa [Sl.given] using hfx.2.1, ?_⟩
      have : k ≠ x.toNat := by have := hfx.1; omega
      simp only [Sl.given, List.getElem?_set_ne this]
      exact hfx.2.2
  · simp only [Sl.given, List.nodup_append]
    refine ⟨R.nodup, by simp, ?_⟩
    rintro a ha b hb rfl
    simp at hb; subst hb; exact hnk ha
  · rw [takenOf_length]
    simp only [Sl.given, List.length_set, List.length_append, List.length_cons, List.length_nil]
    omega

/-- How slots are taken. -/
inductive Took (s : Sl) : Sl × (Int × Int) × Int → Prop
  | wrong : s.right = false → Took s (nilS, (0, 0), 90)
  | full : s.right = true → Took s (nilS, (0, 0), 92)
  | ok (fs : List Int) (k : Nat) (q : Int) : s.right = true → s.f = fs ++ [(k : Int)] → s.g[k]? = some q → q < 1000000000 → Took s (s.taken fs k q, ((k : Int), q + 1), 0)
theorem took (s : Sl) : Took s s.take := by
  unfold Sl.take
  cases hr : s.right with
  | false => exact .wrong hr
  | true =>
    have R := (right_iff s).1 hr
    simp only [if_true]
    cases hl : s.f.getLast? with
    | none => exact .full hr
    | some x =>
      obtain ⟨fs, hf⟩ : ∃ fs, s.f = fs ++ [x] := List.getLast?_eq_some_iff.1 hl
      have hx := R.free x (by rw [hf]; simp)
      obtain ⟨k, rfl⟩ : ∃ k : Nat, x = k := ⟨x.toNat, by have := hx.1; omega⟩
      obtain ⟨q, hq⟩ : ∃ q, s.g[k]? = some q := ⟨_, List.getElem?_eq_getElem (by have := hx.2.1; have := R.l3; omega)⟩
      simp only [Int.toNat_natCast, hq, Option.getD_some]
      by_cases hm : q = 1000000000
      · simp only [hm, if_true]; exact .full hr
      · simp only [hm, if_false]
        have hg := R.gen q (by obtain ⟨hj, e⟩ := List.getElem?_eq_some_iff.1 hq; rw [← e]; exact List.getElem_mem hj)
        have hdl : s.f.dropLast = fs := by rw [hf, List.dropLast_concat]
        rw [hdl]
        exact .ok fs k q hr hf hq (by omega)
/-- How they are given back. -/
inductive Gave (s : Sl) (h : Int × Int) : Sl × Int → Prop
  | wrong : s.right = false → Gave s h (nilS, 90)
  | old : s.right = true → s.valid h = false → Gave s h (nilS, 91)
  | ok (k : Nat) : s.right = true → h.1 = k → s.u[k]? = some true → s.g[k]? = some h.2 → Gave s h (s.given k, 0)
theorem live_of_valid {s : Sl} {h : Int × Int} (hv : s.valid h = true) : s.right = true ∧ Live s h := by
  unfold Sl.valid at hv
  rw [Bool.and_eq_true] at hv
  exact ⟨hv.1, of_decide_eq_true hv.2⟩
theorem gave (s : Sl) (h : Int × Int) : Gave s h (s.give h) := by
  unfold Sl.give
  cases hr : s.right with
  | false => exact .wrong hr
  | true =>
    simp only [if_true]
    cases hv : s.valid h with
    | false => exact .old hr hv
    | true =>
      have hl := (live_of_valid hv).2
      obtain ⟨k, hk⟩ : ∃ k : Nat, h.1 = k := ⟨h.1.toNat, by have := hl.1; omega⟩
      have h1 := hl.2.2.1
      have h2 := hl.2.2.2
      simp only [hk, Int.toNat_natCast] at h1 h2
      simp only [if_true, hk, Int.toNat_natCast]
      exact .ok k hr hk h1 h2
theorem nil_right : nilS.right = false := by decide +kernel
theorem nil_valid (h : Int × Int) : nilS.valid h = false := by unfold Sl.valid; rw [nil_right]; rfl
end Go.Proofs.Ytbalebnhjpjhgaa.L9

/- A drawn region, an operation at a time (layer 3 has this in its text H). -/
namespace Go.Proofs.Ytbalebnhjpjhgaa
open Go.RowKit Go.Shelf
attribute [local go_sem] Oper.semAt_some

theorem takeH {P : Program} {ops : Array Oper} {Q : Exit → Act → World → Prop} {md : Region.Mode} {S : World → Prop} {i : Nat} {oi : Oper} (d : Option Tmp) {v : Value} {fuel : Nat} {listed : Array Bool} {a : Act} {w : World} (hi : ops[i]? = some oi) (hd : oi.dst = d)
    (hs : Region.noSelect ops = true) (hf : Region.free md ops listed i = true) (hr : (Region.ready md ops listed).contains i = true)
    (hQ : ∀ c a w, Q (.panic c) (a.put d v) w → Q (.panic c) a w) (hy : YieldsIf P ops S oi v a) (hS : S w)
    (h : wpAnyH P md ops Q S fuel (listed.setIfInBounds i true) (a.put d v) w) : wpAnyH P md ops Q S (fuel + 1) listed a w := by
  subst hd
  exact wpAnyH_take hi hs hf hr hQ hy hS h
theorem wpAnyH_narrow {P : Program} {ops : Array Oper} {Q : Exit → Act → World → Prop} {md : Region.Mode} {S S2 : World → Prop} (hs : ∀ w, S2 w → S w) : ∀ (fuel : Nat) (listed : Array Bool) (a : Act) (w : World), wpAnyH P md ops Q S2 fuel listed a w → wpAnyH P md ops Q S fuel listed a w
  | 0, _, _, _, h => h
  | fuel + 1, _, _, _, h => ⟨h.1, fun i hi => wpOp_mono (fun a' w' h' => ⟨hs _ h'.1, wpAnyH_narrow hs fuel _ a' w' h'.2⟩) (h.2 i hi)⟩
end Go.Proofs.Ytbalebnhjpjhgaa

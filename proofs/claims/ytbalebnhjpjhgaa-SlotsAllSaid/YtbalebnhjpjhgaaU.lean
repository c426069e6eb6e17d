/- New. -/
import Derived.Test.YtbalebnhjpjhgaaT
import Derived.Laws.MakeOwn
namespace Go.Proofs.Ytbalebnhjpjhgaa
open Go.RowKit

theorem made_int (n j : Nat) (h : j < n) : (madeCells #[.int .i64 0] n)[j]? = some (.int .i64 0) := by simp [madeCells, h, Nat.mod_one]
theorem made_bool (n j : Nat) (h : j < n) : (madeCells #[.bool false] n)[j]? = some (.bool false) := by simp [madeCells, h, Nat.mod_one]
theorem madeI_eq (n : Nat) : (madeCells #[.int .i64 0] n).toList = intVs (List.replicate n 0) := by
  apply List.ext_getElem?
  intro j
  by_cases h : j < n
  · rw [← Array.getElem?_toList.symm, made_int n j h]; simp [intVs, h]
  · simp [madeCells, h, intVs]
theorem madeB_eq (n : Nat) : (madeCells #[.bool false] n).toList = boolVs (List.replicate n false) := by
  apply List.ext_getElem?
  intro j
  by_cases h : j < n
  · rw [← Array.getElem?_toList.symm, made_bool n j h]; simp [boolVs, h]
  · simp [madeCells, h, boolVs]
theorem make_ints (n : Nat) (h : n ≤ 100000) (W : World) : (Instr.makeSlice 22 (.int .i64 n) (.int .i64 n)).run Try.prog W = .ok (.slice (some ⟨W.heap.size, 0, none⟩) n n) (W.alloc (.cells (madeCells #[.int .i64 0] n) 3)) := by
  obtain ⟨i, hi, hz, hs, hb⟩ := info_parts info3
  have := run_make (P := Try.prog) W 22 3 i (.int .i64 0) (by kernel_rfl) hi hz .i64 .i64 (n : Int) (n : Int) (by omega) (by omega) (by rw [hb]; omega) (by omega)
  simp only [Int.toNat_natCast, hs, Nat.mul_one] at this
  exact this
theorem make_bools (n : Nat) (h : n ≤ 100000) (W : World) : (Instr.makeSlice 23 (.int .i64 n) (.int .i64 n)).run Try.prog W = .ok (.slice (some ⟨W.heap.size, 0, none⟩) n n) (W.alloc (.cells (madeCells #[.bool false] n) 4)) := by
  obtain ⟨i, hi, hz, hs, hb⟩ := info_parts info4
  have := run_make (P := Try.prog) W 23 4 i (.bool false) (by kernel_rfl) hi hz .i64 .i64 (n : Int) (n : Int) (by omega) (by omega) (by rw [hb]; omega) (by omega)
  simp only [Int.toNat_natCast, hs, Nat.mul_one] at this
  exact this
theorem ownI_made (W : World) (n base : Nat) (h : n ≤ 100000) (hb : base ≤ W.heap.size) : OwnI base (W.alloc (.cells (madeCells #[.int .i64 0] n) 3)) (.slice (some ⟨W.heap.size, 0, none⟩) n n) (List.replicate n 0) := by
  have := World.ownsRow_lit (base := base) (e := 3) (size := 1) W (madeCells #[.int .i64 0] n) n hb (by simp [maxLen]; omega) (by simp [madeCells])
  rw [madeI_eq] at this
  unfold OwnI
  rw [List.length_replicate]
  exact this
theorem ownB_made (W : World) (n base : Nat) (h : n ≤ 100000) (hb : base ≤ W.heap.size) : OwnB base (W.alloc (.cells (madeCells #[.bool false] n) 4)) (.slice (some ⟨W.heap.size, 0, none⟩) n n) (List.replicate n false) := by
  have := World.ownsRow_lit (base := base) (e := 4) (size := 1) W (madeCells #[.bool false] n) n hb (by simp [maxLen]; omega) (by simp [madeCells])
  rw [madeB_eq] at this
  unfold OwnB
  rw [List.length_replicate]
  exact this

/-- The first k of n - 1, n - 2, .. -/
def frees (n k : Nat) : List Int := (List.range k).map fun (j : Nat) => (n : Int) - 1 - (j : Int)
theorem frees_succ (n k : Nat) : frees n (k + 1) = frees n k ++ [(n : Int) - 1 - k] := by simp [frees, List.range_succ]
theorem frees_length (n k : Nat) : (frees n k).length = k := by simp [frees]
def newS (n : Nat) : Sl := ⟨List.replicate n 0, List.replicate n false, frees n n⟩

theorem grow_step {V W w1 : World} {X : Obj} {T : Nat} {row : Option Nat} (h : V.grownBy W (some T)) (hg : (W.alloc X).grownBy w1 row) (hr : ∀ b, row = some b → V.heap.size ≤ b) (o : Nat) (v : Value) : V.grownBy (w1.setCell ⟨T, o, none⟩ v) (some T) where
  os := hg.os.trans h.os
  tape := hg.tape.trans h.tape
  output := hg.output.trans h.output
  size := Nat.le_trans h.size (Nat.le_trans (by simp) (Nat.le_trans hg.size (by simp [World.setCell])))
  block i hi hne := by
    refine (Below.heap_setCell _ _ _ _ (fun e => hne (congrArg some e))).trans ?_
    refine (hg.block i (Nat.lt_of_lt_of_le hi (Nat.le_trans h.size (by simp))) (fun e => by have := hr i e.symm; omega)).trans ?_
    exact (Below.heap_alloc _ _ _ (Nat.lt_of_lt_of_le hi h.size)).trans (h.block i hi hne)

theorem OwnI.al {base : Nat} {W : World} {v : Value} {zs : List Int} {X : Obj} (h : OwnI base W v zs) : OwnI base (W.alloc X) v zs := World.ownsRow.alloc h X
theorem OwnB.al {base : Nat} {W : World} {v : Value} {zs : List Bool} {X : Obj} (h : OwnB base W v zs) : OwnB base (W.alloc X) v zs := World.ownsRow.alloc h X
theorem OwnI.dr {base : Nat} {W : World} {v : Value} {zs : List Int} (h : OwnI base W v zs) : OwnI base W.drew v zs := h
theorem OwnB.dr {base : Nat} {W : World} {v : Value} {zs : List Bool} (h : OwnB base W v zs) : OwnB base W.drew v zs := h
theorem ownI_made' (W : World) (n base g : Nat) (h : n ≤ 100000) (hb : base ≤ W.heap.size) (hg : g = W.heap.size) : OwnI base (W.alloc (.cells (madeCells #[.int .i64 0] n) 3)) (.slice (some ⟨g, 0, none⟩) n n) (List.replicate n 0) := by subst hg; exact ownI_made W n base h hb
theorem ownB_made' (W : World) (n base g : Nat) (h : n ≤ 100000) (hb : base ≤ W.heap.size) (hg : g = W.heap.size) : OwnB base (W.alloc (.cells (madeCells #[.bool false] n) 4)) (.slice (some ⟨g, 0, none⟩) n n) (List.replicate n false) := by subst hg; exact ownB_made W n base h hb

theorem OwnI.far {base g n c T : Nat} {W W' : World} {zs : List Int} (h : OwnI base W (.slice (some ⟨g, 0, none⟩) n c) zs) (hg : W.grownBy W' (some T)) (hne : g ≠ T) : OwnI base W' (.slice (some ⟨g, 0, none⟩) n c) zs := World.ownsRow.kept h hg (.inr fun e => hne (Option.some.inj e))
theorem OwnB.far {base g n c T : Nat} {W W' : World} {zs : List Bool} (h : OwnB base W (.slice (some ⟨g, 0, none⟩) n c) zs) (hg : W.grownBy W' (some T)) (hne : g ≠ T) : OwnB base W' (.slice (some ⟨g, 0, none⟩) n c) zs := World.ownsRow.kept h hg (.inr fun e => hne (Option.some.inj e))
theorem OwnI.set3 {base B2 : Nat} {W : World} {v : Value} {zs : List Int} (h : OwnI base W v zs) (h2 : B2 < base) (v0 v1 v2 : Value) : OwnI base (((W.setCell ⟨B2, 0, none⟩ v0).setCell ⟨B2, 1, none⟩ v1).setCell ⟨B2, 2, none⟩ v2) v zs := ((h.set h2).set h2).set h2
theorem OwnB.set3 {base B2 : Nat} {W : World} {v : Value} {zs : List Bool} (h : OwnB base W v zs) (h2 : B2 < base) (v0 v1 v2 : Value) : OwnB base (((W.setCell ⟨B2, 0, none⟩ v0).setCell ⟨B2, 1, none⟩ v1).setCell ⟨B2, 2, none⟩ v2) v zs := ((h.set h2).set h2).set h2

/-- What stands behind the literal. -/
structure Laid (w : World) (n T g1 g2 : Nat) (V : World) : Prop where
  t0 : V.cell? ⟨T, 0, none⟩ = some (.slice (some ⟨g1, 0, none⟩) n n)
  t1 : V.cell? ⟨T, 1, none⟩ = some (.slice (some ⟨g2, 0, none⟩) n n)
  t2 : V.cell? ⟨T, 2, none⟩ = some (.slice none 0 0)
  f2 : V.frozen? ⟨T, 2, none⟩ = false
  o1 : OwnI (w.heap.size + 1) V (.slice (some ⟨g1, 0, none⟩) n n) (List.replicate n 0)
  o2 : OwnB (w.heap.size + 1) V (.slice (some ⟨g2, 0, none⟩) n n) (List.replicate n false)
  n1 : g1 ≠ T
  n2 : g2 ≠ T
  lt : w.heap.size < T
  r : Fr3 w.heap.size V
  b : Below w.heap.size w V

set_option maxRecDepth 100000 in
set_option maxHeartbeats 2000000 in
theorem new_ok (n : Nat) (h1 : 1 ≤ n) (h2 : n ≤ 64) (w : World) :
    Calls Try.prog 11 #[.int .i64 n] w fun e w' => ∃ b1 b2 b3 d1 d2 d3, e = .returned (.tuple #[.agg #[.slice b1 n d1, .slice b2 n d2, .slice b3 n d3], .int .i64 0]) ∧
      SlotsAt w'.heap.size w' b1 b2 b3 (newS n).g (newS n).u (newS n).f ∧ Below w.heap.size w w' := by
  obtain ⟨i0, hi0, hz0, hz1, hz2⟩ := info_parts info3
  have hmI := make_ints n (by omega)
  have hmB := make_bools n (by omega)
  have i1 : ¬ (n : Int) < 1 := by omega
  have i2 : (n : Int) ≤ 64 := by omega
  go_enter Try.func11, Try.ntmps11
  go_upto_region 3 with fail
  go_cut [4] from 13 (fun t wx => ∃ T g1 g2, t = .pointer (some ⟨T, 0, none⟩) ∧ Laid w n T g1 g2 wx)
  case first =>
    go_region
    all_goals go_wp2_with fail
    all_goals
      go_meet
      first
        | exact ⟨w.heap.size + 1, w.heap.size + 1 + 1, w.heap.size + 1 + 1 + 1, rfl, (by go_simp), (by go_simp), (by go_simp), (by go_simp), OwnI.dr (OwnI.al (ownI_made' _ _ _ _ (by omega) (by simp) (by simp))), OwnB.dr (ownB_made' _ _ _ _ (by omega) (by simp) (by simp)), (by omega), (by omega), (by omega), (by constructor <;> go_simp), below_drew (((((Below.refl _ _).alloc (Nat.le_refl _) _).alloc (by simp) _).alloc (by simp; omega) _).alloc (by simp; omega) _)⟩
        | exact ⟨w.heap.size + 1, w.heap.size + 1 + 1 + 1, w.heap.size + 1 + 1, rfl, (by go_simp), (by go_simp), (by go_simp), (by go_simp), OwnI.dr (ownI_made' _ _ _ _ (by omega) (by simp) (by simp)), OwnB.dr (OwnB.al (ownB_made' _ _ _ _ (by omega) (by simp) (by simp))), (by omega), (by omega), (by omega), (by constructor <;> go_simp), below_drew (((((Below.refl _ _).alloc (Nat.le_refl _) _).alloc (by simp) _).alloc (by simp; omega) _).alloc (by simp; omega) _)⟩
        | exact ⟨w.heap.size + 1 + 1, w.heap.size + 1, w.heap.size + 1 + 1 + 1, rfl, (by go_simp), (by go_simp), (by go_simp), (by go_simp), OwnI.dr (OwnI.al (OwnI.al (ownI_made' _ _ _ _ (by omega) (by simp) (by simp)))), OwnB.dr (ownB_made' _ _ _ _ (by omega) (by simp) (by simp)), (by omega), (by omega), (by omega), (by constructor <;> go_simp), below_drew (((((Below.refl _ _).alloc (Nat.le_refl _) _).alloc (by simp) _).alloc (by simp; omega) _).alloc (by simp; omega) _)⟩
        | exact ⟨w.heap.size + 1 + 1, w.heap.size + 1 + 1 + 1, w.heap.size + 1, rfl, (by go_simp), (by go_simp), (by go_simp), (by go_simp), OwnI.dr (ownI_made' _ _ _ _ (by omega) (by simp) (by simp)), OwnB.dr (OwnB.al (OwnB.al (ownB_made' _ _ _ _ (by omega) (by simp) (by simp)))), (by omega), (by omega), (by omega), (by constructor <;> go_simp), below_drew (((((Below.refl _ _).alloc (Nat.le_refl _) _).alloc (by simp) _).alloc (by simp; omega) _).alloc (by simp; omega) _)⟩
        | exact ⟨w.heap.size + 1 + 1 + 1, w.heap.size + 1, w.heap.size + 1 + 1, rfl, (by go_simp), (by go_simp), (by go_simp), (by go_simp), OwnI.dr (OwnI.al (OwnI.al (ownI_made' _ _ _ _ (by omega) (by simp) (by simp)))), OwnB.dr (OwnB.al (ownB_made' _ _ _ _ (by omega) (by simp) (by simp))), (by omega), (by omega), (by omega), (by constructor <;> go_simp), below_drew (((((Below.refl _ _).alloc (Nat.le_refl _) _).alloc (by simp) _).alloc (by simp; omega) _).alloc (by simp; omega) _)⟩
        | exact ⟨w.heap.size + 1 + 1 + 1, w.heap.size + 1 + 1, w.heap.size + 1, rfl, (by go_simp), (by go_simp), (by go_simp), (by go_simp), OwnI.dr (OwnI.al (ownI_made' _ _ _ _ (by omega) (by simp) (by simp))), OwnB.dr (OwnB.al (OwnB.al (ownB_made' _ _ _ _ (by omega) (by simp) (by simp)))), (by omega), (by omega), (by omega), (by constructor <;> go_simp), below_drew (((((Below.refl _ _).alloc (Nat.le_refl _) _).alloc (by simp) _).alloc (by simp; omega) _).alloc (by simp; omega) _)⟩
  case rest =>
    obtain ⟨T, g1, g2, rfl, hL⟩ := hcut
    have LL := Lib.hid hL
    have t0 := hL.t0
    have t1 := hL.t1
    have t2 := hL.t2
    have f2 := hL.f2
    have hTV : T < wc.heap.size := blt t0
    have h00 : w.heap.size < T := hL.lt
    clear hL hmI hmB
    generalize wc = V at *
    go_wp2_with fail
    go_loopw [5] (fun i wr => ∃ (k : Nat) (v3 : Value), k ≤ n ∧ i = .int .i64 ((n : Int) - 1 - (k : Int)) ∧ V.grownBy wr (some T) ∧ wr.cell? ⟨T, 0, none⟩ = some (.slice (some ⟨g1, 0, none⟩) n n) ∧ wr.cell? ⟨T, 1, none⟩ = some (.slice (some ⟨g2, 0, none⟩) n n) ∧
        wr.cell? ⟨T, 2, none⟩ = some v3 ∧ wr.frozen? ⟨T, 2, none⟩ = false ∧ OwnI V.heap.size wr v3 (frees n k)) (fun i _ => (intOf i + 1).toNat)
    case atStart => exact ⟨0, _, Nat.zero_le _, by simp, ⟨rfl, rfl, rfl, Nat.le_refl _, fun _ _ _ => rfl⟩, t0, t1, t2, f2, World.ownsRow_nil _ _ _ _⟩
    case round =>
      clear t0 t1 t2 f2
      obtain ⟨k, v3, hk, rfl, hg, c0, c1, c2, cf, ho⟩ := hrel
      obtain ⟨a3, d3, rfl, _⟩ := ho.form
      rw [frees_length] at c2 ho
      have hTr : T < wr.heap.size := blt c0
      have hVr := hg.size
      have HO := Lib.hid (show wr.ownsRow V.heap.size 3 1 (.slice a3 k d3) k (intVs (frees n k)) by have := ho; unfold OwnI at this; rwa [frees_length] at this)
      have HOO := Lib.hid ho
      have HG := Lib.hid hg
      have hTo : Value.ownBlock (.slice a3 k d3) ≠ some T := fun e => by have := (ho.lt T e).1; omega
      have hlo : ∀ b, Value.ownBlock (.slice a3 k d3) = some b → V.heap.size ≤ b := fun b e => (ho.lt b e).1
      clear ho hg
      by_cases hlt : k < n
      · obtain ⟨p, hp⟩ : ∃ p : Int, p = (n : Int) - 1 - (k : Int) := ⟨_, rfl⟩
        rw [← hp]
        have hp0 : 0 ≤ p := by omega
        have hp1 : p ≤ 64 := by omega
        have HP := Lib.hid hp
        have hz : (0 : Int) ≤ p := hp0
        clear hp
        go_wp2_with (refine wpList_append_lies _ rfl _ _ _ rfl V.heap.size 3 i0 _ 1 8 Try.underlying22 hi0 hz0 hz1 hz2 rfl (by omega) (.slice a3 k d3) k (intVs (frees n k)) rfl (HO.out.alloc _) ⟨wr.heap.size, 0, none⟩ 1 1 [.int .i64 p] rfl (by rfl) (cell_one_new _ _ _) (by simp [Value.oneCell']) (by omega) (by simp [maxLen]; omega) (by omega) (by simp; omega) _ rfl ?_; intro gg cap1 w5 hown hgrow hat hlt5; have HOW := Lib.hid hown; have HGW := Lib.hid hgrow; clear hown hgrow hat; have y0 := (HGW.out.cell_far ⟨T, 0, none⟩ (by simp; omega) hTo.symm).trans (keep_alloc _ c0); have y1 := (HGW.out.cell_far ⟨T, 1, none⟩ (by simp; omega) hTo.symm).trans (keep_alloc _ c1); have y2 := (HGW.out.cell_far ⟨T, 2, none⟩ (by simp; omega) hTo.symm).trans (keep_alloc _ c2); have yf2 := (HGW.out.frozen_far ⟨T, 2, none⟩ (by simp; omega) hTo.symm).trans (keep_alloc_f _ c2 cf))
        have HN := Lib.hid (show OwnI V.heap.size w5 (.slice (some ⟨gg, 0, none⟩) (k + 1) cap1) (frees n (k + 1)) by
          unfold OwnI
          rw [frees_length, frees_succ, ← HP.out]
          simpa [intVs] using HOW.out)
        have HK := Lib.hid (grow_step HG.out HGW.out hlo 2 (.slice (some ⟨gg, 0, none⟩) (k + 1) cap1))
        have hgT : gg ≠ T := fun e => by have := (HN.out.lt gg rfl).1; omega
        go_roundw
        case rel => exact ⟨k + 1, _, by omega, by rw [HP.out]; congr 1; omega, HK.out, (World.cell?_setCell_other _ _ _ _ (by simp)).trans y0, (World.cell?_setCell_other _ _ _ _ (by simp)).trans y1, World.cell?_setCell_same' _ _ _ (by rw [y2]; rfl), (World.frozen?_setCell ..).trans yf2, HN.out.set_ne hgT⟩
        case measure => simp [intOf]; omega
      · obtain rfl : k = n := by omega
        have hm1 : (k : Int) - 1 - (k : Int) = -1 := by omega
        rw [hm1]
        have hne0 : Value.ownBlock (.slice a3 k d3) ≠ some w.heap.size := fun e => by have := hlo _ e; omega
        have hwV : w.heap.size < V.heap.size := by omega
        obtain ⟨e0, e1, e2, f0, f1, f3⟩ := LL.out.r.far HG.out hwV (fun e => by cases e; omega)
        have hwT : w.heap.size ≠ T := by omega
        have P1 := Lib.hid (OwnI.at' ((LL.out.o1.far HG.out LL.out.n1).set3 (B2 := w.heap.size) (by omega) (.slice (some ⟨g1, 0, none⟩) k k) (.slice (some ⟨g2, 0, none⟩) k k) (.slice a3 k d3)))
        have P2 := Lib.hid (OwnB.at' ((LL.out.o2.far HG.out LL.out.n2).set3 (B2 := w.heap.size) (by omega) (.slice (some ⟨g1, 0, none⟩) k k) (.slice (some ⟨g2, 0, none⟩) k k) (.slice a3 k d3)))
        have P3 := Lib.hid (OwnI.at' (HOO.out.set3 (B2 := w.heap.size) (by omega) (.slice (some ⟨g1, 0, none⟩) k k) (.slice (some ⟨g2, 0, none⟩) k k) (.slice a3 k d3)))
        have P4 := Lib.hid (below_set3 (LL.out.b.grown HG.out (by omega) (fun b e => by cases e; omega)) (Nat.le_refl w.heap.size) (.slice (some ⟨g1, 0, none⟩) k k) (.slice (some ⟨g2, 0, none⟩) k k) (.slice a3 k d3))
        go_wp2
        refine bodyPost_ret (v := .tuple #[.agg #[.slice (some ⟨g1, 0, none⟩) k k, .slice (some ⟨g2, 0, none⟩) k k, .slice a3 k d3], .int .i64 0]) (by simp [results, Try.results11, go_sem, e0, e1, e2]) rfl ⟨_, _, _, _, _, _, rfl, ⟨P1.out, P2.out, P3.out⟩, P4.out⟩
end Go.Proofs.Ytbalebnhjpjhgaa

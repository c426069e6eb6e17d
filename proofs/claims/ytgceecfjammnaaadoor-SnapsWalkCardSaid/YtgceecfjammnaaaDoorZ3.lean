/- Sj, Sk, Sl, Sm, Sn, So, Hr, Held -/
import Derived.Test.YtgceecfjammnaaaDoorZ2
import Derived.Maps.OwnIn
import Derived.Maps.Views
import Derived.Sort.MapsRangeIn
import Derived.Sort.CutIn
import Derived.Test.YtgceecfjammnaaaDoorZ0
set_option linter.unusedVariables false
set_option linter.unusedSimpArgs false
/- A pool's check of its numbers. -/
namespace Go.Proofs.YtgceecfjammnaaaDoor.L16
open Go.RowKit Go.Shelf
attribute [local go_sem] Oper.semAt_some
set_option linter.unusedSimpArgs false
set_option linter.unusedVariables false
/-- The map of what was met. -/
def metD (l : List Int) : DataW Unit := l.foldl (fun D x => D.put (.int .i64 x) (.lit (.bool true))) (.map [])
theorem metD_snoc (l : List Int) (x : Int) : metD (l ++ [x]) = (metD l).put (.int .i64 x) (.lit (.bool true)) := by simp [metD]
theorem metD_map (l : List Int) : metD l = Maps.setOf (.lit (.bool true)) (l.map fun x => Lit.int .i64 x) := by unfold metD Maps.setOf; rw [List.foldl_map]
theorem keys_ok (l : List Int) : ∀ x ∈ l.map (fun x => Lit.int .i64 x), WideAt.IsKeyLit x := by
  intro x hx
  obtain ⟨y, _, rfl⟩ := List.mem_map.1 hx
  trivial
theorem metD_has (l : List Int) (x : Int) : Maps.has (metD l) (.int .i64 x) = decide (x ∈ l) := by
  rw [metD_map, Maps.has_setOf _ _ _ (keys_ok l), List.any_map]
  rw [Bool.eq_iff_iff]
  simp [Lit.sameKey]
theorem metD_size_snoc (l : List Int) (x : Int) : Maps.size (metD (l ++ [x])) = if x ∈ l then Maps.size (metD l) else Maps.size (metD l) + 1 := by
  rw [metD_snoc, Maps.size_put (by rw [metD_map]; exact Maps.tidy_setOf _ _ (keys_ok l)), metD_has]
  simp
theorem snoc_ind {α : Type} {p : List α → Prop} (h0 : p []) (h1 : ∀ l x, p l → p (l ++ [x])) (l : List α) : p l := by
  have h : ∀ r : List α, p r.reverse := fun r => by
    induction r with
    | nil => exact h0
    | cons x r ih => rw [List.reverse_cons]; exact h1 _ _ ih
  have := h l.reverse
  rwa [List.reverse_reverse] at this
theorem metD_size_le (l : List Int) : Maps.size (metD l) ≤ l.length := by
  refine snoc_ind (p := fun l => Maps.size (metD l) ≤ l.length) ?_ ?_ l
  · simp [metD, Maps.size]
  · intro l x ih
    rw [metD_size_snoc, List.length_append]; split <;> simp <;> omega
theorem metD_size_eq (l : List Int) : Maps.size (metD l) = l.length ↔ l.Nodup := by
  refine snoc_ind (p := fun l => Maps.size (metD l) = l.length ↔ l.Nodup) ?_ ?_ l
  · simp [metD, Maps.size]
  · intro l x ih
    have := metD_size_le l
    rw [metD_size_snoc, List.length_append, List.nodup_append]
    by_cases h : x ∈ l
    · simp only [h, if_true, List.length_singleton]
      constructor
      · intro e; omega
      · rintro ⟨_, _, h3⟩; exact absurd rfl (h3 x h x (by simp))
    · simp only [h, if_false, List.length_singleton]
      constructor
      · intro e
        refine ⟨ih.1 (by omega), by simp, ?_⟩
        rintro a ha b hb rfl
        simp at hb; subst hb; exact h ha
      · rintro ⟨h1, _, _⟩
        have := ih.2 h1
        omega


theorem goes_map {Pv : Nat → Prop} {A B : World} {P : Program} {k : TypeId} {R : Value → Option (DataW Unit × List MemPlace)} {b n : Nat} {D : DataW Unit} (h : Goes Pv A B) (hm : A.ownsMap P k R b n D) (hp : ¬ Pv b) : B.ownsMap P k R b n D := by
  obtain ⟨es, clock, hb, r⟩ := hm
  exact ⟨es, clock, h.obj hb hp, r⟩
def CC (pre : List (SnM × Nat)) : List Int := pre.map fun x => x.1.c
def numB (n : Int) (l : List SnM) : Bool := l.all (fun x => decide (1 ≤ x.c ∧ x.c < n)) && decide ((l.map SnM.c).Nodup)
theorem CC_snoc (pre : List (SnM × Nat)) (x : SnM × Nat) : CC (pre ++ [x]) = CC pre ++ [x.1.c] := by simp [CC]
theorem CC_idx (l : List SnM) : CC l.zipIdx = l.map SnM.c := by
  unfold CC
  rw [show (fun x : SnM × Nat => x.1.c) = SnM.c ∘ Prod.fst from rfl, ← List.map_map, List.zipIdx_map_fst]
structure NuI (w : World) (n : Int) (sl : Value) (pre : List (SnM × Nat)) (Pv : Nat → Prop) (W : World) : Prop where
  p0 : W.cell? ⟨w.heap.size, 0, none⟩ = some sl
  p1 : W.cell? ⟨w.heap.size, 1, none⟩ = some (.int .i64 n)
  c1 : W.cell? ⟨w.heap.size + 1, 0, none⟩ = some (.bool false)
  f1 : W.frozen? ⟨w.heap.size + 1, 0, none⟩ = false
  m : W.cell? ⟨w.heap.size + 3, 0, none⟩ = some (.map (some (w.heap.size + 2)))
  o : W.ownsMap Tryd.prog 3 (plainElem (H := Unit) Tryd.prog 4) (w.heap.size + 2) pre.length (metD (CC pre))
  ok : pre.all (fun x => decide (1 ≤ x.1.c ∧ x.1.c < n)) = true
  below : Below w.heap.size w W
  pv : ∀ i, Pv i → w.heap.size + 3 < i
theorem NuI.steady (w : World) (n : Int) (sl : Value) : Steady (NuI w n sl) := by
  rintro s Pv Pv' X Y ⟨p0, p1, h2, h3, g2, g3, h4, h5, h6⟩ hg hm
  have n0 : ¬ Pv w.heap.size := fun h => by have := h6 _ h; omega
  have n1 : ¬ Pv (w.heap.size + 1) := fun h => by have := h6 _ h; omega
  have n2 : ¬ Pv (w.heap.size + 2) := fun h => by have := h6 _ h; omega
  have n3 : ¬ Pv (w.heap.size + 3) := fun h => by have := h6 _ h; omega
  have z := blt g2
  refine ⟨hg.cell p0 n0, hg.cell p1 n0, hg.cell h2 n1, (hg.frozen h2 n1).trans h3, hg.cell g2 n3, goes_map hg g3 n2, h4, hg.below h5 (fun i h => by have := h6 i h; omega), fun i hi => ?_⟩
  rcases hm i hi with h | ⟨h, _⟩
  · exact h6 i h
  · omega
structure NuX (l : List SnM) (w : World) (n : Int) (c : Code) (_ : List (SnM × Nat)) (Pv : Nat → Prop) (W : World) : Prop where
  c : c = .ret
  c1 : W.cell? ⟨w.heap.size + 1, 0, none⟩ = some (.bool false)
  no : numB n l = false
  below : Below w.heap.size w W
  pv : ∀ i, Pv i → w.heap.size + 3 < i
  z : w.heap.size + 3 < W.heap.size
theorem NuX.steady (l : List SnM) (w : World) (n : Int) (c : Code) : Steady (NuX l w n c) := by
  rintro s Pv Pv' X Y ⟨h0, h2, h4, h5, h6, h7⟩ hg hm
  have n1 : ¬ Pv (w.heap.size + 1) := fun h => by have := h6 _ h; omega
  have z := hg.size
  refine ⟨h0, hg.cell h2 n1, h4, hg.below h5 (fun i h => by have := h6 i h; omega), fun i hi => ?_, by omega⟩
  rcases hm i hi with h | ⟨h, _⟩
  · exact h6 i h
  · have := h; omega
theorem num_no {n : Int} {l : List SnM} {x : SnM} (hx : x ∈ l) (h : ¬ (1 ≤ x.c ∧ x.c < n)) : numB n l = false := by
  unfold numB
  rw [all_no (f := fun x => decide (1 ≤ x.c ∧ x.c < n)) hx (decide_eq_false h)]
  rfl
set_option maxRecDepth 100000 in
set_option maxHeartbeats 4000000 in
theorem hasNumbers_c (a : Option Addr) (cap : Nat) (n : Int) (hn : n ≤ 9223372036854775807) (l : List SnM) (hl : l.length ≤ 100000) (w : World) (h : PlAt w.heap.size w a l) :
    Calls Tryd.prog 50 #[.agg #[.slice a l.length cap, .int .i64 n]] w fun x w' => x = .returned (.bool (numB n l)) ∧ Below w.heap.size w w' := by
  refine (callsIn_wide (n := 8)).1 ?_
  have HE := Lib.hid (fun W => snaps_c a l.length cap n W)
  have HA := Lib.hid h
  have hmm := @run_makeMap Tryd.prog
  clear h
  refine callsIn_of_wp_marks Tryd.func50 rfl trivial ?_ rfl
  simp only [Tryd.ntmps50, List.size_toArray, List.length_cons, List.length_nil, Nat.reduceAdd, Nat.reduceSub, Array.replicate_succ, Array.replicate_zero, List.push_toArray, List.append_toArray, List.nil_append, List.cons_append]
  gi_wp2_with fail
  refine ⟨trivial, (callsIn_wide.2 (HE.out _)).mono ?_⟩
  rintro e w' ⟨rfl, rfl⟩
  clear HE
  have hst : ((((((w.alloc (.cells #[.slice a l.length cap, .int .i64 n] 48)).alloc (.cells #[.bool false] 4)).alloc (Obj.map #[] 0)).alloc (.cells #[.map (some (w.heap.size + 1 + 1))] 86)).alloc (.cells #[.slice a l.length cap, .int .i64 n] 48)).alloc (.cells #[.slice a l.length cap] 22)).cell? ⟨w.heap.size + 5, 0, none⟩ = some (.slice a l.length cap) := by go_simp
  have hm0 := World.ownsMap_made ((w.alloc (.cells #[.slice a l.length cap, .int .i64 n] 48)).alloc (.cells #[.bool false] 4)) Tryd.prog 3 (plainElem (H := Unit) Tryd.prog 4)
  rw [World.size_alloc, World.size_alloc] at hm0
  have hm1 := ((hm0.alloc (.cells #[.map (some (w.heap.size + 1 + 1))] 86)).alloc (.cells #[.slice a l.length cap, .int .i64 n] 48)).alloc (.cells #[.slice a l.length cap] 22)
  have hI : NuI w n (.slice a l.length cap) [] (fun i => i = w.heap.size + 5) ((((((w.alloc (.cells #[.slice a l.length cap, .int .i64 n] 48)).alloc (.cells #[.bool false] 4)).alloc (Obj.map #[] 0)).alloc (.cells #[.map (some (w.heap.size + 1 + 1))] 86)).alloc (.cells #[.slice a l.length cap, .int .i64 n] 48)).alloc (.cells #[.slice a l.length cap] 22)) := ⟨by go_simp, by go_simp, by go_simp, by go_simp, by go_simp, hm1, rfl, bal (bal (bal (bal (bal (below_alloc w _) _) _) _) _) _, fun i h => by omega⟩
  clear hm0 hm1 hmm
  have hsb : ((((w.alloc (.cells #[.slice a l.length cap, .int .i64 n] 48)).alloc (.cells #[.bool false] 4)).alloc (Obj.map #[] 0)).alloc (.cells #[.map (some (w.heap.size + 1 + 1))] 86)).heap.size = w.heap.size + 4 := by simp
  try simp only [hsb]
  generalize ((((((w.alloc (.cells #[.slice a l.length cap, .int .i64 n] 48)).alloc (.cells #[.bool false] 4)).alloc (Obj.map #[] 0)).alloc (.cells #[.map (some (w.heap.size + 1 + 1))] 86)).alloc (.cells #[.slice a l.length cap, .int .i64 n] 48)).alloc (.cells #[.slice a l.length cap] 22)) = Z at *
  have HBI := Lib.hid (snaps_it 7 (by omega) a cap l hl w.heap.size (w.heap.size + 5) Z hst)
  clear hsb
  gi_wp2_with fail
  refine wpIn_range_itersG (n := 8) (encs := fun p : SnM × Nat => #[.int .i64 (p.2 : Int), snmV p.1]) (ps := #[9, 10]) rfl (by omega) (gf := 76) (lb := #[.pointer (some ⟨w.heap.size + 5, 0, none⟩)]) rfl trivial (enters_of Tryd.func76 (by kernel_rfl) rfl)
    HBI.out (Below.refl _ _) (fun _ => rfl) (fun i h => by rw [h]; exact blt hst) (NuI w n (.slice a l.length cap)) (NuX l w n) (fun s Pv W h => HA.out.s.below h.below) (NuI.steady w n _) ?steadyx hI ?round ?done ?stop
  case steadyx => exact fun c => NuX.steady l w n c
  case round =>
    clear HBI hI
    rintro K pre x Pv W hc hI2 hPl hll ⟨rec, hrec⟩
    simp only [snmV]
    gi_wp2
    refine ⟨(Mid.refl Pv W).alloc _, fun W2 hG hr2 => ?_⟩
    have hKW : K < W.heap.size := (Array.getElem?_eq_some_iff.1 hrec).1
    have x0 : (W.alloc (.cells #[.int .i64 x.1.c, .slice x.1.ita x.1.it.length x.1.itd, .int .i64 x.1.u] 42)).cell? ⟨W.heap.size, 0, none⟩ = some (.int .i64 x.1.c) := by go_simp
    replace x0 := hG.cell x0 (fun h => by omega)
    have hI3 := NuI.steady w n _ _ _ _ _ _ (NuI.steady w n _ _ _ _ _ _ hI2 (Goes.of_below (below_alloc W (.cells #[.int .i64 x.1.c, .slice x.1.ita x.1.it.length x.1.itd, .int .i64 x.1.u] 42))) (More.same _ _ _)) (hG.mono (fun i h => h ▸ hPl)) (More.same _ _ _)
    have hx := mem_idx hc
    have hpl : pre.length ≤ 100000 := by have := hc.length_le; simp at this; omega
    have hBT : w.heap.size + 3 < W.heap.size := blt hI2.m
    clear hI2 hG hr2 hrec hll hc
    obtain ⟨p0, p1, q1, f1, qm, qo, hok, hbw, hpv⟩ := hI3
    have HN := Lib.hid (num_no (n := n) hx)
    have HK := Lib.hid hok
    have HB := Lib.hid hbw
    have HP := Lib.hid hpv
    have HC := Lib.hid (CC_snoc pre x)
    have z1 := blt q1
    have z2 := blt qm
    clear hok hbw hpv hx
    by_cases c1 : x.1.c < 1
    · have HF := Lib.hid (HN.out (fun k => by omega))
      generalize x.1.c = c at *
      generalize W.heap.size = B at *
      gi_wp2
      refine ⟨⟨rfl, by go_simp, HF.out, HB.out.setCell (by show w.heap.size ≤ w.heap.size + 1; omega) _, HP.out, (by simp [World.setCell]; exact z2)⟩, (Mid.refl _ _).setCell _ (fun h => by have := HP.out _ h; omega)⟩
    · by_cases c2 : x.1.c ≥ n
      · have HF := Lib.hid (HN.out (fun k => by omega))
        generalize x.1.c = c at *
        generalize W.heap.size = B at *
        gi_wp2
        refine ⟨⟨rfl, by go_simp, HF.out, HB.out.setCell (by show w.heap.size ≤ w.heap.size + 1; omega) _, HP.out, (by simp [World.setCell]; exact z2)⟩, (Mid.refl _ _).setCell _ (fun h => by have := HP.out _ h; omega)⟩
      · have HO := Lib.hid (show (pre ++ [x]).all (fun x => decide (1 ≤ x.1.c ∧ x.1.c < n)) = true by rw [List.all_append, HK.out]; simp; omega)
        have Hw := Lib.hid (show (Lit.int .i64 x.1.c).wf = true from WalkArith.wf_i64 (by omega))
        have HL := Lib.hid (show (pre ++ [x]).length = pre.length + 1 by simp)
        generalize x.1.c = c at *
        generalize W.heap.size = B at *
        gi_wp2_with (gi_at_mapUpdate; refine wpListIn_mapUpdate_own _ rfl _ _ _ 86 rfl 3 4 (Maps.int_keyed Tryd.underlying3) Tryd.underlying86 _ (w.heap.size + 2) pre.length _ rfl qo (by unfold maxLen; omega) _ _ _ rfl rfl (Maps.keyOf_int_mk Tryd.underlying3 Hw.out) _ [] (plainElem_bool Tryd.underlying4 true) ?_; intro w1 hown1 hgrow1)
        have hm := HB.out.size
        have u0 := hgrow1.cell p0 (fun e => by have := Option.some.inj e; simp at this)
        have u1 := hgrow1.cell p1 (fun e => by have := Option.some.inj e; simp at this)
        have u2 := hgrow1.cell q1 (fun e => by have := Option.some.inj e; simp at this)
        have u3 := hgrow1.cell qm (fun e => by have := Option.some.inj e; simp at this)
        have fr := (hgrow1.frozen_far ⟨w.heap.size + 1, 0, none⟩ z1 (by simp)).trans f1
        exact ⟨⟨u0, u1, u2, fr, u3, by rw [HL.out, HC.out, metD_snoc]; exact hown1, HO.out, HB.out.grown hgrow1 hm (fun j hj => by cases hj; omega), HP.out⟩, Mid.of_grown hgrow1 (fun r e h => by cases e; have := HP.out _ h; omega)⟩
  case done =>
    rintro D xs Pv W hlD hpD rfl ⟨p0, p1, q1, f1, qm, qo, hok, hbw, hpv⟩ hdef
    rw [CC_idx] at qo
    have hl2 := fun ty => qo.len Tryd.underlying86 ty
    have hsz := metD_size_eq (l.map SnM.c)
    rw [List.length_map] at hsz
    have hle := metD_size_le (l.map SnM.c)
    rw [List.length_map] at hle
    have HO := Lib.hid (show numB n l = decide (Maps.size (metD (l.map SnM.c)) = l.length) by
      unfold numB
      rw [← all_idx l (fun x => decide (1 ≤ x.c ∧ x.c < n)), hok, Bool.true_and, decide_eq_decide]
      exact hsz.symm)
    have HBW := Lib.hid hbw
    have HD := Lib.hid hdef
    have hDW : D < W.heap.size := (Array.getElem?_eq_some_iff.1 hdef).1
    have z1 := blt q1
    have zD := blt hst
    clear hbw hdef hpv hok hI HBI hst qo hsz
    generalize Maps.size (metD (l.map SnM.c)) = M at *
    generalize l.length = L at *
    by_cases hML : M = L
    · have HV := Lib.hid (decide_eq_true hML)
      subst hML
      gi_wp2
      have HD2 : (W.setCell ⟨w.heap.size + 1, 0, none⟩ (.bool true)).heap[D]? = some (.deferred (some [])) := (Below.heap_setCell W ⟨w.heap.size + 1, 0, none⟩ _ D (by show D ≠ w.heap.size + 1; omega)).trans HD.out
      have e1 : (W.setCell ⟨w.heap.size + 1, 0, none⟩ (.bool true)).cell? ⟨w.heap.size + 1, 0, none⟩ = some (.bool true) := by go_simp
      have HB2 := Lib.hid (HBW.out.setCell (p := ⟨w.heap.size + 1, 0, none⟩) (by show w.heap.size ≤ w.heap.size + 1; omega) (.bool true))
      refine ⟨by simp, .inl ⟨_, _, rfl, run_takeDeferred HD2, ?_⟩⟩
      have e2 : ((W.setCell ⟨w.heap.size + 1, 0, none⟩ (.bool true)).putObj D (.deferred none)).cell? ⟨w.heap.size + 1, 0, none⟩ = some (.bool true) := (World.cell?_of_block (World.putObj_heap_other (by show w.heap.size + 1 ≠ D; omega))).trans e1
      refine ⟨_, results_cell rfl _ _ (by rfl) (show (loadVar 4 ⟨w.heap.size + 1, 0, none⟩).run Tryd.prog _ = .ok (.bool true) _ by simp [loadVar, isAgg, underlying, Tryd.underlying4, e2]), ?_, ?_⟩
      · rw [HO.out, HV.out]
      · exact HB2.out.grown (grownBy_putObj' _ D _) HB2.out.size (fun j hj => by cases hj; omega)
    · have HV := Lib.hid (decide_eq_false hML)
      have hml : ((M : Int) == (L : Int)) = false := by rw [beq_eq_false_iff_ne]; omega
      have hml2 : (M == L) = false := by rw [beq_eq_false_iff_ne]; exact hML
      gi_wp2
      have HD2 : (W.setCell ⟨w.heap.size + 1, 0, none⟩ (.bool false)).heap[D]? = some (.deferred (some [])) := (Below.heap_setCell W ⟨w.heap.size + 1, 0, none⟩ _ D (by show D ≠ w.heap.size + 1; omega)).trans HD.out
      have e1 : (W.setCell ⟨w.heap.size + 1, 0, none⟩ (.bool false)).cell? ⟨w.heap.size + 1, 0, none⟩ = some (.bool false) := by go_simp
      have HB2 := Lib.hid (HBW.out.setCell (p := ⟨w.heap.size + 1, 0, none⟩) (by show w.heap.size ≤ w.heap.size + 1; omega) (.bool false))
      refine ⟨by simp, .inl ⟨_, _, rfl, run_takeDeferred HD2, ?_⟩⟩
      have e2 : ((W.setCell ⟨w.heap.size + 1, 0, none⟩ (.bool false)).putObj D (.deferred none)).cell? ⟨w.heap.size + 1, 0, none⟩ = some (.bool false) := (World.cell?_of_block (World.putObj_heap_other (by show w.heap.size + 1 ≠ D; omega))).trans e1
      refine ⟨_, results_cell rfl _ _ (by rfl) (show (loadVar 4 ⟨w.heap.size + 1, 0, none⟩).run Tryd.prog _ = .ok (.bool false) _ by simp [loadVar, isAgg, underlying, Tryd.underlying4, e2]), ?_, ?_⟩
      · rw [HO.out, HV.out]
      · exact HB2.out.grown (grownBy_putObj' _ D _) HB2.out.size (fun j hj => by cases hj; omega)
  case stop =>
    rintro D c pre Pv W hlD hpD hSp ⟨rfl, q1, hno, hbw, hpv⟩ hdef
    have HBW := Lib.hid hbw
    have HD := Lib.hid hdef
    have HN := Lib.hid hno
    have hDW : D < W.heap.size := (Array.getElem?_eq_some_iff.1 hdef).1
    have zD := blt hst
    clear hbw hdef hpv hno hI HBI hst
    gi_wp2
    refine ⟨by simp, .inl ⟨_, _, rfl, run_takeDeferred HD.out, ?_⟩⟩
    have e2 : (W.putObj D (.deferred none)).cell? ⟨w.heap.size + 1, 0, none⟩ = some (.bool false) := (World.cell?_of_block (World.putObj_heap_other (by show w.heap.size + 1 ≠ D; omega))).trans q1
    refine ⟨_, results_cell rfl _ _ (by rfl) (show (loadVar 4 ⟨w.heap.size + 1, 0, none⟩).run Tryd.prog _ = .ok (.bool false) _ by simp [loadVar, isAgg, underlying, Tryd.underlying4, e2]), ?_, ?_⟩
    · rw [HN.out]
    · exact HBW.out.grown (grownBy_putObj' _ D _) HBW.out.size (fun j hj => by cases hj; omega)
end Go.Proofs.YtgceecfjammnaaaDoor.L16

/- A pool is right. -/
namespace Go.Proofs.YtgceecfjammnaaaDoor.L16
open Go.RowKit Go.Shelf
attribute [local go_sem] Oper.semAt_some
set_option linter.unusedSimpArgs false
set_option linter.unusedVariables false
/-- Do all of k checks hold, from the i-th on? -/
def allE (er : Nat → Bool) (i : Nat) : Nat → Bool
  | 0 => true
  | k + 1 => er i && allE er (i + 1) k
set_option maxRecDepth 100000 in
set_option maxHeartbeats 4000000 in
theorem checkOf_c (n : Nat) (hn : n ≤ 1000) (b : Nat) (f : Nat → Nat) (er : Nat → Bool) (a : Option Addr) (L cap : Nat) (nx : Int) (w : World)
    (hc : ∀ i, i < n → w.cell? ⟨b, i, none⟩ = some (.func (.func (f i)) #[] #[]))
    (HC : ∀ i, i < n → ∀ W, Below w.heap.size w W → Calls Tryd.prog (f i) #[.agg #[.slice a L cap, .int .i64 nx]] W fun y w' => y = .returned (.bool (er i)) ∧ Below W.heap.size W w')
    (eg : ∀ i, i < n → ∀ args W, (callFunc (f i) args).run Tryd.prog W = .ok (.enter (f i) args) W) :
    Calls Tryd.prog 45 #[.agg #[.slice a L cap, .int .i64 nx], .slice (some ⟨b, 0, none⟩) n n] w fun y w' => y = .returned (.bool (allE er 0 n)) ∧ Below w.heap.size w w' := by
  have HCC := Lib.hid HC
  have HCL := Lib.hid hc
  have EG := Lib.hid eg
  have x0 : (w.alloc (.cells #[.slice a L cap, .int .i64 nx] 48)).cell? ⟨w.heap.size, 0, none⟩ = some (.slice a L cap) := by go_simp
  have x1 : (w.alloc (.cells #[.slice a L cap, .int .i64 nx] 48)).cell? ⟨w.heap.size, 1, none⟩ = some (.int .i64 nx) := by go_simp
  have HX := Lib.hid (And.intro x0 x1)
  clear HC hc eg x0 x1
  go_enter Tryd.func45, Tryd.ntmps45
  go_wp2
  have B1 := Lib.hid (below_alloc w (.cells #[.slice a L cap, .int .i64 nx] 48))
  generalize w.alloc (.cells #[.slice a L cap, .int .i64 nx] 48) = w1 at *
  go_loopw [9] (fun i wr => ∃ k : Nat, k ≤ n ∧ i = .int .i64 k ∧ Hid (allE er k (n - k) = allE er 0 n) ∧ Hid (Below w1.heap.size w1 wr)) (fun i _ => n - (intOf i).toNat)
  case atStart => exact ⟨0, Nat.zero_le _, rfl, Lib.hid rfl, Lib.hid (Below.refl _ _)⟩
  case round =>
    obtain ⟨k, hk, rfl, hf, hb⟩ := hrel
    by_cases hlt : k < n
    · have hlt' : (k : Int) < (n : Int) := by omega
      have hce := ((btr B1.out hb.out).cell (p := ⟨b, k, none⟩) (blt (HCL.out k hlt))).trans (HCL.out k hlt)
      obtain ⟨x0, x1⟩ := HX.out
      replace x0 := (hb.out.cell (blt x0)).trans x0
      replace x1 := (hb.out.cell (blt x1)).trans x1
      have ek := EG.out k hlt
      have HK := Lib.hid (fun W hb => HCC.out k hlt W hb)
      cases he : er k
      · rw [he] at HK
        have hf2 := Lib.hid (show allE er 0 n = false by rw [← hf.out, show n - k = (n - (k + 1)) + 1 by omega, allE, he]; rfl)
        clear he
        go_wp2_with fail
        refine (HK.out _ (btr B1.out hb.out)).mono ?_; rintro e w2 ⟨rfl, hb1⟩
        have HB := Lib.hid (btr B1.out (btr hb.out hb1))
        clear hb1 ek hce x0 x1
        go_wp2
        go_ret
        exact ⟨(by show Ending.returned (.bool false) = _; rw [hf2.out]), HB.out⟩
      · rw [he] at HK
        have hf2 := Lib.hid (show allE er (k + 1) (n - (k + 1)) = allE er 0 n by rw [← hf.out, show n - k = (n - (k + 1)) + 1 by omega, allE, he, Bool.true_and])
        clear he
        go_wp2_with fail
        refine (HK.out _ (btr B1.out hb.out)).mono ?_; rintro e w2 ⟨rfl, hb1⟩
        have HB := Lib.hid (btr hb.out hb1)
        clear hb1 ek hce x0 x1
        go_wp2
        go_roundw
        case rel => exact ⟨k + 1, by omega, by go_num, hf2, HB⟩
        case measure => simp [intOf]; omega
    · have hge : ¬ (k : Int) < (n : Int) := by omega
      have hf2 := Lib.hid (show allE er 0 n = true by rw [← hf.out, show n - k = 0 by omega]; rfl)
      go_wp2
      go_ret
      exact ⟨(by show Ending.returned (.bool true) = _; rw [hf2.out]), btr B1.out hb.out⟩
def fK : Nat → Nat
  | 0 => 46
  | 1 => 47
  | 2 => 48
  | 3 => 49
  | _ => 50
def eK (n : Int) (l : List SnM) : Nat → Bool
  | 0 => nextB n
  | 1 => roomB l.length
  | 2 => l.all fun x => itemsB wordB x.it
  | 3 => usedB 0 (l.map SnM.p)
  | _ => numB n l
theorem eK_right (n : Int) (l : List SnM) : allE (eK n l) 0 5 = rightP wordB ⟨l.map SnM.p, n⟩ := by
  unfold rightP
  simp only [allE, eK, nextB, roomB, numB, List.length_map, List.all_map, List.map_map, Bool.and_true]
  rw [show (Snp.c ∘ SnM.p) = SnM.c from rfl, show ((fun s => itemsB wordB s.it) ∘ SnM.p) = (fun x : SnM => itemsB wordB x.it) from rfl, show ((fun s : Snp => decide (1 ≤ s.c ∧ s.c < n)) ∘ SnM.p) = (fun x : SnM => decide (1 ≤ x.c ∧ x.c < n)) from rfl]
  simp only [Bool.and_assoc]
set_option maxRecDepth 100000 in
set_option maxHeartbeats 4000000 in
theorem isRight_c (a : Option Addr) (cap : Nat) (n : Int) (hn : n ≤ 9223372036854775807) (l : List SnM) (hl : l.length ≤ 100000) (hi : ∀ x ∈ l, x.it.length ≤ 100000 ∧ ∀ s ∈ x.it, s.size ≤ 1000000) (w : World) (h : PlAt w.heap.size w a l) :
    Calls Tryd.prog 24 #[.agg #[.slice a l.length cap, .int .i64 n]] w fun x w' => x = .returned (errV (rightP wordB ⟨l.map SnM.p, n⟩) 160) ∧ Below w.heap.size w w' := by
  have HU := Lib.hid (fun W b => unless_c W b 160)
  have h5 : ∀ i, i < 5 → i = 0 ∨ i = 1 ∨ i = 2 ∨ i = 3 ∨ i = 4 := fun i h => by omega
  have HC := Lib.hid (fun (b : Nat) (W : World) (hW : Below w.heap.size w W) (c0 : W.cell? ⟨b, 0, none⟩ = some (.func (.func 46) #[] #[])) (c1 : W.cell? ⟨b, 1, none⟩ = some (.func (.func 47) #[] #[])) (c2 : W.cell? ⟨b, 2, none⟩ = some (.func (.func 48) #[] #[])) (c3 : W.cell? ⟨b, 3, none⟩ = some (.func (.func 49) #[] #[])) (c4 : W.cell? ⟨b, 4, none⟩ = some (.func (.func 50) #[] #[])) =>
    show Calls Tryd.prog 45 #[.agg #[.slice a l.length cap, .int .i64 n], .slice (some ⟨b, 0, none⟩) 5 5] W fun y w' => y = .returned (.bool (rightP wordB ⟨l.map SnM.p, n⟩)) ∧ Below W.heap.size W w' from by
      rw [← eK_right]
      refine checkOf_c 5 (by omega) b fK (eK n l) a l.length cap n W ?_ ?_ ?_
      · intro i hi
        obtain rfl | rfl | rfl | rfl | rfl := h5 i hi
        · exact c0
        · exact c1
        · exact c2
        · exact c3
        · exact c4
      · intro i hii V hV
        have hP : PlAt V.heap.size V a l := (h.on hW).on hV
        obtain rfl | rfl | rfl | rfl | rfl := h5 i hii
        · exact hasNext_c a l.length cap n V
        · exact hasRoom_c a l.length cap n V
        · exact hasItems_c a cap n l hl hi V hP
        · exact hasOrder_c a cap n l hl V hP
        · exact hasNumbers_c a cap n hn l hl V hP
      · intro i hi args V
        obtain rfl | rfl | rfl | rfl | rfl := h5 i hi
        · exact enters_of Tryd.func46 (by kernel_rfl) rfl args V
        · exact enters_of Tryd.func47 (by kernel_rfl) rfl args V
        · exact enters_of Tryd.func48 (by kernel_rfl) rfl args V
        · exact enters_of Tryd.func49 (by kernel_rfl) rfl args V
        · exact enters_of Tryd.func50 (by kernel_rfl) rfl args V)
  clear h hi hl hn h5
  generalize rightP wordB ⟨l.map SnM.p, n⟩ = B at *
  go_enter Tryd.func24, Tryd.ntmps24
  go_wp2_with fail
  go_at_call 45
  refine (HC.out _ _ (bal (below_alloc w _) _) (by go_simp) (by go_simp) (by go_simp) (by go_simp) (by go_simp)).mono ?_
  rintro e w1 ⟨rfl, hb⟩
  have HB := Lib.hid (btr (bal (below_alloc w _) _) hb)
  clear hb
  go_wp2_with (go_at_call 37; refine (HU.out _ _).mono ?_; rintro e w2 ⟨rfl, rfl⟩)
  go_ret
  exact ⟨rfl, HB.out⟩
end Go.Proofs.YtgceecfjammnaaaDoor.L16

/- Right of pools; texts compared. -/
namespace Go.Proofs.YtgceecfjammnaaaDoor.L16
open Go.RowKit Go.Shelf
attribute [local go_sem] Oper.semAt_some
set_option linter.unusedSimpArgs false
set_option linter.unusedVariables false
theorem toList_inj {x y : ByteArray} (h : x.toList = y.toList) : x = y := by
  rw [ByteArray.toList_eq, ByteArray.toList_eq] at h
  cases x; cases y
  congr 1
  exact Array.ext' h
set_option maxRecDepth 100000 in
set_option maxHeartbeats 4000000 in
theorem equalS_c (a b : Option Addr) (c d : Nat) (xs ys : List ByteArray) (w : World) (hx : xs.length ≤ 1000) (hy : ys.length ≤ 1000) (hA : StrsAt w.heap.size w a xs) (hB : StrsAt w.heap.size w b ys) :
    Calls Tryd.prog 44 #[.slice a xs.length c, .slice b ys.length d] w fun e w' => e = .returned (.bool (decide (xs = ys))) ∧ Below w.heap.size w w' := by
  by_cases hl : xs.length = ys.length
  · have HA := Lib.hid hA
    have HB := Lib.hid hB
    have HL := Lib.hid hl
    clear hA hB
    rw [← hl]
    clear hl hy
    obtain ⟨N, hN⟩ : ∃ N, xs.length = N := ⟨_, rfl⟩
    have HN := Lib.hid hN
    rw [hN] at hx ⊢
    clear hN
    go_enter Tryd.func44, Tryd.ntmps44
    go_wp2
    go_loopw [13] (fun i wr => Hid (Below w.heap.size w wr) ∧ ∃ k : Nat, k ≤ N ∧ i = .int .i64 (k : Int) ∧ xs.take k = ys.take k) (fun i _ => N - (intOf i).toNat)
    case atStart => exact ⟨Lib.hid (Below.refl _ _), 0, Nat.zero_le _, rfl, rfl⟩
    case round =>
      obtain ⟨HW, k, hk, rfl, ht⟩ := hrel
      by_cases hlt : k < N
      · have hkx : k < xs.length := by have := HN.out; omega
        have hky : k < ys.length := by have := HN.out; have := HL.out; omega
        obtain ⟨b1, o1, rfl, _, p1⟩ := (HA.out.below HW.out) k hkx
        obtain ⟨b2, o2, rfl, _, p2⟩ := (HB.out.below HW.out) k hky
        have hlt' : (k : Int) < (N : Int) := by omega
        have HT := Lib.hid ht
        have HS := Lib.hid (And.intro (List.take_succ_eq_append_getElem (l := xs) hkx) (List.take_succ_eq_append_getElem (l := ys) hky))
        have HG := Lib.hid (show xs[k] ≠ ys[k] → xs ≠ ys from fun h e => h (by subst e; rfl))
        generalize xs[k] = x at *
        generalize ys[k] = y at *
        clear ht
        by_cases hxy : x = y
        · subst hxy
          go_wp2
          go_quiet (fail)
          go_wp2
          go_roundw
          case rel => exact ⟨Lib.hid (below_drewN HW.out _), k + 1, by omega, by go_num, by rw [HS.out.1, HS.out.2, HT.out]⟩
          case measure => simp [intOf]; omega
        · have HF := Lib.hid (HG.out hxy)
          have hxp : ¬ x.toList = y.toList := fun e => hxy (toList_inj e)
          have hxl : (x.toList == y.toList) = false := by rw [beq_eq_false_iff_ne]; intro e; exact hxy (toList_inj e)
          go_wp2
          go_quiet (fail)
          go_wp2
          go_ret
          exact ⟨ret_bool (decide_eq_false HF.out).symm, below_drewN HW.out _⟩
      · obtain rfl : k = N := by omega
        have he : xs = ys := by
          have h1 := List.take_of_length_le (l := xs) (i := k) (by have := HN.out; omega)
          have h2 := List.take_of_length_le (l := ys) (i := k) (by have := HN.out; have := HL.out; omega)
          rw [← h1, ht, h2]
        have hlt' : ¬ (k : Int) < (k : Int) := by omega
        have HF := Lib.hid he
        clear he ht
        go_wp2
        go_ret
        exact ⟨ret_bool (decide_eq_true HF.out).symm, HW.out⟩
  · have hne : xs ≠ ys := fun e => hl (by rw [e])
    rw [decide_eq_false hne]
    clear hA hB hne
    generalize xs.length = N at *
    generalize ys.length = M at *
    have hl' : ¬ (N : Int) = (M : Int) := by omega
    have hl2 : (((N : Int) == (M : Int)) = false) := by simpa using hl'
    go_enter Tryd.func44, Tryd.ntmps44
    go_wp2
    go_ret
    exact ⟨rfl, Below.refl _ _⟩
set_option maxRecDepth 100000 in
set_option maxHeartbeats 4000000 in
theorem pRight_c (a : Option Addr) (cap : Nat) (n : Int) (hn : n ≤ 9223372036854775807) (l : List SnM) (hl : l.length ≤ 100000) (hi : ∀ x ∈ l, x.it.length ≤ 100000 ∧ ∀ s ∈ x.it, s.size ≤ 1000000) (w : World) (h : PlAt w.heap.size w a l) :
    Calls Tryd.prog 16 #[.agg #[.slice a l.length cap, .int .i64 n]] w fun x w' => x = .returned (.bool (rightP wordB ⟨l.map SnM.p, n⟩)) ∧ Below w.heap.size w w' := by
  have HR := Lib.hid (fun W (hb : Below w.heap.size w W) => isRight_c a cap n hn l hl hi W (h.on hb))
  have HO := Lib.hid (fun W => of_c W 160 (by decide))
  have HN := Lib.hid (fun W => is_nil 160 W)
  have HM := Lib.hid (fun W => is_same 160 W)
  clear h hi hl hn
  generalize rightP wordB ⟨l.map SnM.p, n⟩ = B at *
  cases B
  · rw [show errV false 160 = Value.iface 75 (.agg #[.int .i64 160]) from rfl] at HR
    go_enter Tryd.func16, Tryd.ntmps16
    go_wp2_with (first
      | (go_at_call 24; refine (HR.out _ (below_alloc w _)).mono ?_; rintro e w1 ⟨rfl, hb⟩; have HB := Lib.hid (btr (below_alloc w _) hb); clear hb)
      | (go_at_call 41; refine (HO.out _).mono ?_; rintro e w2 ⟨rfl, rfl⟩)
      | (go_at_call 40; refine (HM.out _).mono ?_; rintro e w3 ⟨rfl, rfl⟩))
    go_ret
    exact ⟨rfl, HB.out⟩
  · rw [show errV true 160 = Value.nilIface from rfl] at HR
    go_enter Tryd.func16, Tryd.ntmps16
    go_wp2_with (first
      | (go_at_call 24; refine (HR.out _ (below_alloc w _)).mono ?_; rintro e w1 ⟨rfl, hb⟩; have HB := Lib.hid (btr (below_alloc w _) hb); clear hb)
      | (go_at_call 41; refine (HO.out _).mono ?_; rintro e w2 ⟨rfl, rfl⟩)
      | (go_at_call 40; refine (HN.out _).mono ?_; rintro e w3 ⟨rfl, rfl⟩))
    go_ret
    exact ⟨rfl, HB.out⟩
end Go.Proofs.YtgceecfjammnaaaDoor.L16

/- An empty pool. (Written by hand: no generator.) -/
namespace Go.Proofs.YtgceecfjammnaaaDoor.L16
open Go.RowKit Go.Shelf
attribute [local go_sem] Oper.semAt_some
set_option linter.unusedSimpArgs false
set_option linter.unusedVariables false
theorem pool_load {W : World} {b : Nat} {v0 v1 : Value} (h0 : W.cell? ⟨b, 0, none⟩ = some v0) (h1 : W.cell? ⟨b, 1, none⟩ = some v1) : (loadVar 24 ⟨b, 0, none⟩).run Tryd.prog W = .ok (.agg #[v0, v1]) W := by simp [loadVar, isAgg, underlying, Tryd.underlying24, Result.andThen, loadCells, loadCellsFrom, Addr.add, h0, h1]
set_option maxRecDepth 100000 in
set_option maxHeartbeats 4000000 in
theorem pNew_c (w : World) : Calls Tryd.prog 20 #[] w fun x w' => x = .returned (.agg #[.slice none 0 0, .int .i64 1]) ∧ Below w.heap.size w w' := by
  go_enter Tryd.func20, Tryd.ntmps20
  go_wp2
  refine bodyPost_ret (results_cell rfl _ _ (by rfl) (pool_load (by go_simp) (by go_simp))) rfl ⟨rfl, below_alloc w _⟩
end Go.Proofs.YtgceecfjammnaaaDoor.L16

/- A snapshot's copy. (Written by hand: no generator.) -/
namespace Go.Proofs.YtgceecfjammnaaaDoor.L16
open Go.RowKit Go.Shelf
attribute [local go_sem] Oper.semAt_some
set_option linter.unusedSimpArgs false
set_option linter.unusedVariables false
theorem clonS_r (a : Option Addr) (cap : Nat) (zs : List ByteArray) (hlen : zs.length ≤ 1000) (w : World) (h : StrsAt w.heap.size w a zs) :
    Calls Tryd.prog 31 #[.slice a zs.length cap] w fun e w' => ∃ v d, e = .returned (.slice v zs.length d) ∧ OwnS w.heap.size w' (.slice v zs.length d) zs ∧ Below w.heap.size w w' := by
  refine (clonS_any a cap zs hlen w h).mono ?_
  rintro e w' ⟨v, rfl, ho, hb⟩
  obtain ⟨a', c', rfl, hs⟩ := ho.form
  exact ⟨a', c', rfl, ho, hb⟩
set_option maxRecDepth 100000 in
set_option maxHeartbeats 4000000 in
theorem snap_c (c u : Int) (a : Option Addr) (d : Nat) (zs : List ByteArray) (hlen : zs.length ≤ 1000) (w : World) (h : StrsAt w.heap.size w a zs) :
    Calls Tryd.prog 39 #[.agg #[.int .i64 c, .slice a zs.length d, .int .i64 u]] w fun x w' => ∃ v d', x = .returned (.agg #[.int .i64 c, .slice v zs.length d', .int .i64 u]) ∧ OwnS w.heap.size w' (.slice v zs.length d') zs ∧ Below w.heap.size w w' := by
  have HC := Lib.hid (fun W (hb : Below w.heap.size w W) => clonS_r a d zs hlen W ((h.below hb).mono hb.size))
  clear h hlen
  go_enter Tryd.func39, Tryd.ntmps39
  go_wp2_with fail
  refine (HC.out _ (bal (below_alloc w _) _)).mono ?_
  rintro e w1 ⟨v, d', rfl, hs, hb⟩
  have e0 := (hb.cell (p := ⟨w.heap.size, 0, none⟩) (by simp; omega)).trans (show _ = some (Value.int .i64 c) by go_simp)
  have e1 := (hb.cell (p := ⟨w.heap.size, 1, none⟩) (by simp; omega)).trans (show _ = some (Value.slice a zs.length d) by go_simp)
  have e2 := (hb.cell (p := ⟨w.heap.size, 2, none⟩) (by simp; omega)).trans (show _ = some (Value.int .i64 u) by go_simp)
  have f1 := (hb.frozen (p := ⟨w.heap.size, 1, none⟩) (by simp; omega)).trans (show _ = false by go_simp)
  have r0 := (hb.cell (p := ⟨w.heap.size + 1, 0, none⟩) (by simp)).trans (show _ = some (Value.int .i64 0) by go_simp)
  have r1 := (hb.cell (p := ⟨w.heap.size + 1, 1, none⟩) (by simp)).trans (show _ = some (Value.slice none 0 0) by go_simp)
  have r2 := (hb.cell (p := ⟨w.heap.size + 1, 2, none⟩) (by simp)).trans (show _ = some (Value.int .i64 0) by go_simp)
  have g0 := (hb.frozen (p := ⟨w.heap.size + 1, 0, none⟩) (by simp)).trans (show _ = false by go_simp)
  have g1 := (hb.frozen (p := ⟨w.heap.size + 1, 1, none⟩) (by simp)).trans (show _ = false by go_simp)
  have g2 := (hb.frozen (p := ⟨w.heap.size + 1, 2, none⟩) (by simp)).trans (show _ = false by go_simp)
  have HB := Lib.hid (btr (bal (below_alloc w _) _) hb)
  have HS := Lib.hid hs
  have hz : w.heap.size + 1 < w1.heap.size := by have := hb.size; simp at this; omega
  clear hb hs HC
  go_wp2
  have z1 : w.heap.size + 1 < ((w.alloc (.cells #[.int .i64 c, .slice a zs.length d, .int .i64 u] 42)).alloc (.cells #[.int .i64 0, .slice none 0 0, .int .i64 0] 42)).heap.size := by simp
  have HO := ((((HS.out.set (B := w.heap.size) (o := 1) (x := .slice v zs.length d') (by omega)).set (B := w.heap.size + 1) (o := 0) (x := .int .i64 c) (by omega)).set (B := w.heap.size + 1) (o := 1) (x := .slice v zs.length d') (by omega)).set (B := w.heap.size + 1) (o := 2) (x := .int .i64 u) (by omega)).mono (base' := w.heap.size) (by omega)
  have hle : w.heap.size ≤ w.heap.size + 1 := Nat.le_succ _
  have HBB := (((HB.out.setCell (p := ⟨w.heap.size, 1, none⟩) (Nat.le_refl _) (.slice v zs.length d')).setCell (p := ⟨w.heap.size + 1, 0, none⟩) hle (.int .i64 c)).setCell (p := ⟨w.heap.size + 1, 1, none⟩) hle (.slice v zs.length d')).setCell (p := ⟨w.heap.size + 1, 2, none⟩) hle (.int .i64 u)
  refine bodyPost_ret (results_cell rfl _ _ (by rfl) (snm_load (x := ⟨c, zs, v, d', u⟩) (by go_simp) (by go_simp) (by go_simp))) rfl ⟨v, d', rfl, HO, HBB⟩
end Go.Proofs.YtgceecfjammnaaaDoor.L16

/- Which snapshot a cursor finds. (Written by hand: no generator.) -/
namespace Go.Proofs.YtgceecfjammnaaaDoor.L16
open Go.RowKit Go.Shelf
attribute [local go_sem] Oper.semAt_some
set_option linter.unusedSimpArgs false
set_option linter.unusedVariables false
def SnM.zero : SnM := ⟨0, [], none, 0, 0⟩
def findM (l : List SnM) (c : Int) : SnM := (l.find? (fun s => decide (s.c = c))).getD SnM.zero
/-- A block of a snapshot's cells. -/
theorem obj3 {W : World} {b : Nat} {t : TypeId} {v0 v1 v2 : Value} (h : W.heap[b]? = some (.cells #[v0, v1, v2] t (0, 0))) :
    W.cell? ⟨b, 0, none⟩ = some v0 ∧ W.cell? ⟨b, 1, none⟩ = some v1 ∧ W.cell? ⟨b, 2, none⟩ = some v2 ∧ W.frozen? ⟨b, 0, none⟩ = false ∧ W.frozen? ⟨b, 1, none⟩ = false ∧ W.frozen? ⟨b, 2, none⟩ = false := by
  refine ⟨?_, ?_, ?_, ?_, ?_, ?_⟩ <;> simp [World.cell?, World.frozen?, h]
theorem new3 (W : World) (t : TypeId) (v0 v1 v2 : Value) : (W.alloc (.cells #[v0, v1, v2] t)).heap[W.heap.size]? = some (.cells #[v0, v1, v2] t (0, 0)) := World.alloc_heap_new W _
structure FiI (c : Int) (w : World) (pre : List (SnM × Nat)) (Pv : Nat → Prop) (W : World) : Prop where
  c1 : W.cell? ⟨w.heap.size + 1, 0, none⟩ = some (.int .i64 c)
  r : W.heap[w.heap.size + 2]? = some (.cells #[.int .i64 0, .slice none 0 0, .int .i64 0] 42 (0, 0))
  f : W.heap[w.heap.size + 3]? = some (.cells #[.int .i64 0, .slice none 0 0, .int .i64 0] 42 (0, 0))
  ok : pre.all (fun x => decide (¬ x.1.c = c)) = true
  below : Below w.heap.size w W
  pv : ∀ i, Pv i → w.heap.size + 3 < i
theorem FiI.steady (c : Int) (w : World) : Steady (FiI c w) := by
  rintro s Pv Pv' X Y ⟨h1, h2, h3, h4, h5, h6⟩ hg hm
  have n1 : ¬ Pv (w.heap.size + 1) := fun h => by have := h6 _ h; omega
  have n2 : ¬ Pv (w.heap.size + 2) := fun h => by have := h6 _ h; omega
  have n3 : ¬ Pv (w.heap.size + 3) := fun h => by have := h6 _ h; omega
  have z := (Array.getElem?_eq_some_iff.1 h3).1
  refine ⟨hg.cell h1 n1, hg.obj h2 n2, hg.obj h3 n3, h4, hg.below h5 (fun i h => by have := h6 i h; omega), fun i hi => ?_⟩
  rcases hm i hi with h | ⟨h, _⟩
  · exact h6 i h
  · omega
structure FiX (l : List SnM) (c : Int) (w : World) (k : Code) (_ : List (SnM × Nat)) (Pv : Nat → Prop) (W : World) : Prop where
  k : k = .exit 0
  r : W.heap[w.heap.size + 2]? = some (.cells #[.int .i64 0, .slice none 0 0, .int .i64 0] 42 (0, 0))
  f0 : W.cell? ⟨w.heap.size + 3, 0, none⟩ = some (.int .i64 (findM l c).c)
  f1 : W.cell? ⟨w.heap.size + 3, 1, none⟩ = some (.slice (findM l c).ita (findM l c).it.length (findM l c).itd)
  f2 : W.cell? ⟨w.heap.size + 3, 2, none⟩ = some (.int .i64 (findM l c).u)
  below : Below w.heap.size w W
  pv : ∀ i, Pv i → w.heap.size + 3 < i
theorem FiX.steady (l : List SnM) (c : Int) (w : World) (k : Code) : Steady (FiX l c w k) := by
  rintro s Pv Pv' X Y ⟨h1, h2, h3, h3b, h3c, h5, h6⟩ hg hm
  have n2 : ¬ Pv (w.heap.size + 2) := fun h => by have := h6 _ h; omega
  have n3 : ¬ Pv (w.heap.size + 3) := fun h => by have := h6 _ h; omega
  have z := blt h3
  refine ⟨h1, hg.obj h2 n2, hg.cell h3 n3, hg.cell h3b n3, hg.cell h3c n3, hg.below h5 (fun i h => by have := h6 i h; omega), fun i hi => ?_⟩
  rcases hm i hi with h | ⟨h, _⟩
  · exact h6 i h
  · omega
theorem find_idx {pre : List (SnM × Nat)} {l : List SnM} {x : SnM × Nat} {c : Int} (h : pre ++ [x] <+: l.zipIdx) (ho : pre.all (fun x => decide (¬ x.1.c = c)) = true) (hx : x.1.c = c) : findM l c = x.1 := by
  obtain ⟨r, hr⟩ := h
  have e : l = pre.map Prod.fst ++ x.1 :: r.map Prod.fst := by
    have := congrArg (List.map Prod.fst) hr
    rw [List.zipIdx_map_fst] at this
    rw [← this]; simp
  have hn : (pre.map Prod.fst).find? (fun s => decide (s.c = c)) = none := by
    rw [List.find?_eq_none]
    intro y hy
    obtain ⟨z, hz, rfl⟩ := List.mem_map.1 hy
    have := List.all_eq_true.1 ho z hz
    simpa using this
  unfold findM
  rw [e, List.find?_append, hn]
  simp [hx]
theorem find_idx_none {l : List SnM} {c : Int} (ho : l.zipIdx.all (fun x => decide (¬ x.1.c = c)) = true) : findM l c = SnM.zero := by
  rw [all_idx l (fun x => decide (¬ x.c = c))] at ho
  unfold findM
  rw [List.find?_eq_none.2 (fun y hy => by have := List.all_eq_true.1 ho y hy; simpa using this)]
  rfl
set_option maxRecDepth 100000 in
set_option maxHeartbeats 4000000 in
theorem find_c (a : Option Addr) (cap : Nat) (n c : Int) (l : List SnM) (hl : l.length ≤ 100000) (w : World) (h : PlAt w.heap.size w a l) :
    Calls Tryd.prog 34 #[.agg #[.slice a l.length cap, .int .i64 n], .int .i64 c] w fun x w' => x = .returned (snmV (findM l c)) ∧ Below w.heap.size w w' := by
  refine (callsIn_wide (n := 8)).1 ?_
  have HE := Lib.hid (fun W => snaps_c a l.length cap n W)
  have HA := Lib.hid h
  clear h
  refine callsIn_of_wp_marks Tryd.func34 rfl trivial ?_ rfl
  simp only [Tryd.ntmps34, List.size_toArray, List.length_cons, List.length_nil, Nat.reduceAdd, Nat.reduceSub, Array.replicate_succ, Array.replicate_zero, List.push_toArray, List.append_toArray, List.nil_append, List.cons_append]
  gi_wp2_with fail
  refine wpIn_scope_straight ?_
  gi_wp2_with fail
  refine wpIn_label ?_
  gi_wp2_with fail
  refine ⟨trivial, (callsIn_wide.2 (HE.out _)).mono ?_⟩
  rintro e w' ⟨rfl, rfl⟩
  clear HE
  have hst : ((((((w.alloc (.cells #[.slice a l.length cap, .int .i64 n] 48)).alloc (.cells #[.int .i64 c] 3)).alloc (.cells #[.int .i64 0, .slice none 0 0, .int .i64 0] 42)).alloc (.cells #[.int .i64 0, .slice none 0 0, .int .i64 0] 42)).alloc (.cells #[.slice a l.length cap, .int .i64 n] 48)).alloc (.cells #[.slice a l.length cap] 22)).cell? ⟨w.heap.size + 5, 0, none⟩ = some (.slice a l.length cap) := by go_simp
  have k2 : ((((((w.alloc (.cells #[.slice a l.length cap, .int .i64 n] 48)).alloc (.cells #[.int .i64 c] 3)).alloc (.cells #[.int .i64 0, .slice none 0 0, .int .i64 0] 42)).alloc (.cells #[.int .i64 0, .slice none 0 0, .int .i64 0] 42)).alloc (.cells #[.slice a l.length cap, .int .i64 n] 48)).alloc (.cells #[.slice a l.length cap] 22)).heap[w.heap.size + 2]? = some (.cells #[.int .i64 0, .slice none 0 0, .int .i64 0] 42 (0, 0)) := by
    have := new3 ((w.alloc (.cells #[.slice a l.length cap, .int .i64 n] 48)).alloc (.cells #[.int .i64 c] 3)) 42 (.int .i64 0) (.slice none 0 0) (.int .i64 0)
    rw [World.size_alloc, World.size_alloc] at this
    rw [Below.heap_alloc _ _ _ (by simp), Below.heap_alloc _ _ _ (by simp), Below.heap_alloc _ _ _ (by simp)]
    exact this
  have k3 : ((((((w.alloc (.cells #[.slice a l.length cap, .int .i64 n] 48)).alloc (.cells #[.int .i64 c] 3)).alloc (.cells #[.int .i64 0, .slice none 0 0, .int .i64 0] 42)).alloc (.cells #[.int .i64 0, .slice none 0 0, .int .i64 0] 42)).alloc (.cells #[.slice a l.length cap, .int .i64 n] 48)).alloc (.cells #[.slice a l.length cap] 22)).heap[w.heap.size + 3]? = some (.cells #[.int .i64 0, .slice none 0 0, .int .i64 0] 42 (0, 0)) := by
    have := new3 (((w.alloc (.cells #[.slice a l.length cap, .int .i64 n] 48)).alloc (.cells #[.int .i64 c] 3)).alloc (.cells #[.int .i64 0, .slice none 0 0, .int .i64 0] 42)) 42 (.int .i64 0) (.slice none 0 0) (.int .i64 0)
    rw [World.size_alloc, World.size_alloc, World.size_alloc] at this
    rw [Below.heap_alloc _ _ _ (by simp), Below.heap_alloc _ _ _ (by simp)]
    exact this
  have hI : FiI c w [] (fun i => i = w.heap.size + 5) ((((((w.alloc (.cells #[.slice a l.length cap, .int .i64 n] 48)).alloc (.cells #[.int .i64 c] 3)).alloc (.cells #[.int .i64 0, .slice none 0 0, .int .i64 0] 42)).alloc (.cells #[.int .i64 0, .slice none 0 0, .int .i64 0] 42)).alloc (.cells #[.slice a l.length cap, .int .i64 n] 48)).alloc (.cells #[.slice a l.length cap] 22)) := ⟨by go_simp, k2, k3, rfl, bal (bal (bal (bal (bal (below_alloc w _) _) _) _) _) _, fun i h => by omega⟩
  have hsb : ((((w.alloc (.cells #[.slice a l.length cap, .int .i64 n] 48)).alloc (.cells #[.int .i64 c] 3)).alloc (.cells #[.int .i64 0, .slice none 0 0, .int .i64 0] 42)).alloc (.cells #[.int .i64 0, .slice none 0 0, .int .i64 0] 42)).heap.size = w.heap.size + 4 := by simp
  clear k2 k3
  simp only [hsb]
  generalize ((((((w.alloc (.cells #[.slice a l.length cap, .int .i64 n] 48)).alloc (.cells #[.int .i64 c] 3)).alloc (.cells #[.int .i64 0, .slice none 0 0, .int .i64 0] 42)).alloc (.cells #[.int .i64 0, .slice none 0 0, .int .i64 0] 42)).alloc (.cells #[.slice a l.length cap, .int .i64 n] 48)).alloc (.cells #[.slice a l.length cap] 22)) = Z at *
  have HBI := Lib.hid (snaps_it 7 (by omega) a cap l hl w.heap.size (w.heap.size + 5) Z hst)
  clear hsb
  gi_wp2_with fail
  refine wpIn_range_itersG (n := 8) (encs := fun p : SnM × Nat => #[.int .i64 (p.2 : Int), snmV p.1]) (ps := #[11, 12]) rfl (by omega) (gf := 76) (lb := #[.pointer (some ⟨w.heap.size + 5, 0, none⟩)]) rfl trivial (enters_of Tryd.func76 (by kernel_rfl) rfl)
    HBI.out (Below.refl _ _) (fun _ => rfl) (fun i h => by rw [h]; exact blt hst) (FiI c w) (FiX l c w) (fun s Pv W h => HA.out.s.below h.below) (FiI.steady c w) ?steadyx hI ?round ?done ?stop
  case steadyx => exact fun k => FiX.steady l c w k
  case round =>
    clear HBI hI
    rintro K pre x Pv W hc hI2 hPl hll ⟨rec, hrec⟩
    simp only [snmV]
    gi_wp2
    refine ⟨(Mid.refl Pv W).alloc _, fun W2 hG hr2 => ?_⟩
    have hKW : K < W.heap.size := (Array.getElem?_eq_some_iff.1 hrec).1
    have x0 : (W.alloc (.cells #[.int .i64 x.1.c, .slice x.1.ita x.1.it.length x.1.itd, .int .i64 x.1.u] 42)).cell? ⟨W.heap.size, 0, none⟩ = some (.int .i64 x.1.c) := by go_simp
    have x1 : (W.alloc (.cells #[.int .i64 x.1.c, .slice x.1.ita x.1.it.length x.1.itd, .int .i64 x.1.u] 42)).cell? ⟨W.heap.size, 1, none⟩ = some (.slice x.1.ita x.1.it.length x.1.itd) := by go_simp
    have x2 : (W.alloc (.cells #[.int .i64 x.1.c, .slice x.1.ita x.1.it.length x.1.itd, .int .i64 x.1.u] 42)).cell? ⟨W.heap.size, 2, none⟩ = some (.int .i64 x.1.u) := by go_simp
    replace x0 := hG.cell x0 (fun h => by omega)
    replace x1 := hG.cell x1 (fun h => by omega)
    replace x2 := hG.cell x2 (fun h => by omega)
    have hI3 := FiI.steady c w _ _ _ _ _ (FiI.steady c w _ _ _ _ _ hI2 (Goes.of_below (below_alloc W (.cells #[.int .i64 x.1.c, .slice x.1.ita x.1.it.length x.1.itd, .int .i64 x.1.u] 42))) (More.same _ _ _)) (hG.mono (fun i h => h ▸ hPl)) (More.same _ _ _)
    have HC := Lib.hid hc
    clear hI2 hG hr2 hrec hll hc
    obtain ⟨q1, kr, kf, hok, hbw, hpv⟩ := hI3
    obtain ⟨g0, g1, g2, g3, g4, g5⟩ := obj3 kf
    have KF := Lib.hid (And.intro kr kf)
    have HB := Lib.hid hbw
    have HP := Lib.hid hpv
    have HOK := Lib.hid hok
    clear kr kf hbw hpv hok
    generalize W.heap.size = B at *
    by_cases hx : x.1.c = c
    · have HF := Lib.hid (find_idx HC.out HOK.out hx)
      have hxe : (x.1.c == c) = true := by simpa using hx
      clear hx
      gi_wp2
      refine ⟨⟨rfl, ?_, by rw [HF.out]; go_simp, by rw [HF.out]; go_simp, by rw [HF.out]; go_simp, ?_, HP.out⟩, ?_⟩
      · rw [Below.heap_setCell _ _ _ _ (by show w.heap.size + 2 ≠ w.heap.size + 3; omega), Below.heap_setCell _ _ _ _ (by show w.heap.size + 2 ≠ w.heap.size + 3; omega), Below.heap_setCell _ _ _ _ (by show w.heap.size + 2 ≠ w.heap.size + 3; omega)]
        exact KF.out.1
      · have hle : w.heap.size ≤ w.heap.size + 3 := by omega
        exact ((HB.out.setCell (p := ⟨w.heap.size + 3, 0, none⟩) hle _).setCell (p := ⟨w.heap.size + 3, 1, none⟩) hle _).setCell (p := ⟨w.heap.size + 3, 2, none⟩) hle _
      · have hnp : ¬ Pv (w.heap.size + 3) := fun h => by have := HP.out _ h; omega
        exact (((Mid.refl Pv W2).setCell (b := w.heap.size + 3) _ hnp).setCell (b := w.heap.size + 3) _ hnp).setCell (b := w.heap.size + 3) _ hnp
    · have hxe : (x.1.c == c) = false := by simpa using hx
      have HO := Lib.hid (show (pre ++ [x]).all (fun x => decide (¬ x.1.c = c)) = true by rw [List.all_append, HOK.out]; simp [hx])
      gi_wp2
      exact ⟨⟨q1, KF.out.1, KF.out.2, HO.out, HB.out, HP.out⟩, Mid.refl _ _⟩
  case done =>
    rintro D xs Pv W hlD hpD rfl ⟨q1, kr, kf, hok, hbw, hpv⟩ hdef
    have HF := Lib.hid (find_idx_none hok)
    obtain ⟨g0, g1, g2, _, _, _⟩ := obj3 kf
    clear kf hok q1
    have HBW := Lib.hid hbw
    have HD := Lib.hid hdef
    have hDW : D < W.heap.size := (Array.getElem?_eq_some_iff.1 hdef).1
    have zD := blt hst
    have hD2 : D ≠ w.heap.size + 2 := by omega
    obtain ⟨r0, r1, r2, fr0, fr1, fr2⟩ := obj3 kr
    clear hbw hdef hpv hI HBI hst kr
    gi_wp2
    have HD2 : (((W.setCell ⟨w.heap.size + 2, 0, none⟩ (.int .i64 0)).setCell ⟨w.heap.size + 2, 1, none⟩ (.slice none 0 0)).setCell ⟨w.heap.size + 2, 2, none⟩ (.int .i64 0)).heap[D]? = some (.deferred (some [])) := by
      rw [Below.heap_setCell _ _ _ _ hD2, Below.heap_setCell _ _ _ _ hD2, Below.heap_setCell _ _ _ _ hD2]
      exact HD.out
    have hle : w.heap.size ≤ w.heap.size + 2 := by omega
    have HB2 := Lib.hid (((HBW.out.setCell (p := ⟨w.heap.size + 2, 0, none⟩) hle (.int .i64 0)).setCell (p := ⟨w.heap.size + 2, 1, none⟩) hle (.slice none 0 0)).setCell (p := ⟨w.heap.size + 2, 2, none⟩) hle (.int .i64 0))
    have e0 : (((W.setCell ⟨w.heap.size + 2, 0, none⟩ (.int .i64 0)).setCell ⟨w.heap.size + 2, 1, none⟩ (.slice none 0 0)).setCell ⟨w.heap.size + 2, 2, none⟩ (.int .i64 0)).cell? ⟨w.heap.size + 2, 0, none⟩ = some (.int .i64 0) := by go_simp
    have e1 : (((W.setCell ⟨w.heap.size + 2, 0, none⟩ (.int .i64 0)).setCell ⟨w.heap.size + 2, 1, none⟩ (.slice none 0 0)).setCell ⟨w.heap.size + 2, 2, none⟩ (.int .i64 0)).cell? ⟨w.heap.size + 2, 1, none⟩ = some (.slice none 0 0) := by go_simp
    have e2 : (((W.setCell ⟨w.heap.size + 2, 0, none⟩ (.int .i64 0)).setCell ⟨w.heap.size + 2, 1, none⟩ (.slice none 0 0)).setCell ⟨w.heap.size + 2, 2, none⟩ (.int .i64 0)).cell? ⟨w.heap.size + 2, 2, none⟩ = some (.int .i64 0) := by go_simp
    generalize (((W.setCell ⟨w.heap.size + 2, 0, none⟩ (.int .i64 0)).setCell ⟨w.heap.size + 2, 1, none⟩ (.slice none 0 0)).setCell ⟨w.heap.size + 2, 2, none⟩ (.int .i64 0)) = T at *
    try rw [Exit.noGoto_ret]
    refine ⟨by simp, .inl ⟨_, _, rfl, run_takeDeferred HD2, ?_⟩⟩
    have h2 : w.heap.size + 2 ≠ D := fun e => hD2 e.symm
    replace e0 : (T.putObj D (.deferred none)).cell? ⟨w.heap.size + 2, 0, none⟩ = some (.int .i64 0) := (World.cell?_of_block (World.putObj_heap_other h2)).trans e0
    replace e1 : (T.putObj D (.deferred none)).cell? ⟨w.heap.size + 2, 1, none⟩ = some (.slice none 0 0) := (World.cell?_of_block (World.putObj_heap_other h2)).trans e1
    replace e2 : (T.putObj D (.deferred none)).cell? ⟨w.heap.size + 2, 2, none⟩ = some (.int .i64 0) := (World.cell?_of_block (World.putObj_heap_other h2)).trans e2
    refine ⟨_, results_cell rfl _ _ (by rfl) (snm_load (x := SnM.zero) e0 e1 e2), ?_, ?_⟩
    · rw [HF.out]; rfl
    · exact HB2.out.grown (grownBy_putObj' _ D _) HB2.out.size (fun j hj => by cases hj; omega)
  case stop =>
    rintro D k pre Pv W hlD hpD hSp ⟨rfl, kr, g0, g1, g2, hbw, hpv⟩ hdef
    obtain ⟨y, hy⟩ : ∃ y, findM l c = y := ⟨_, rfl⟩
    rw [hy] at g0 g1 g2
    have HF := Lib.hid hy
    clear hy
    have HBW := Lib.hid hbw
    have HD := Lib.hid hdef
    have hDW : D < W.heap.size := (Array.getElem?_eq_some_iff.1 hdef).1
    have zD := blt hst
    have hD2 : D ≠ w.heap.size + 2 := by omega
    obtain ⟨r0, r1, r2, fr0, fr1, fr2⟩ := obj3 kr
    clear hbw hdef hpv hI HBI hst kr
    gi_wp2
    have HD2 : (((W.setCell ⟨w.heap.size + 2, 0, none⟩ (.int .i64 y.c)).setCell ⟨w.heap.size + 2, 1, none⟩ (.slice y.ita y.it.length y.itd)).setCell ⟨w.heap.size + 2, 2, none⟩ (.int .i64 y.u)).heap[D]? = some (.deferred (some [])) := by
      rw [Below.heap_setCell _ _ _ _ hD2, Below.heap_setCell _ _ _ _ hD2, Below.heap_setCell _ _ _ _ hD2]
      exact HD.out
    have hle : w.heap.size ≤ w.heap.size + 2 := by omega
    have HB2 := Lib.hid (((HBW.out.setCell (p := ⟨w.heap.size + 2, 0, none⟩) hle (.int .i64 y.c)).setCell (p := ⟨w.heap.size + 2, 1, none⟩) hle (.slice y.ita y.it.length y.itd)).setCell (p := ⟨w.heap.size + 2, 2, none⟩) hle (.int .i64 y.u))
    have e0 : (((W.setCell ⟨w.heap.size + 2, 0, none⟩ (.int .i64 y.c)).setCell ⟨w.heap.size + 2, 1, none⟩ (.slice y.ita y.it.length y.itd)).setCell ⟨w.heap.size + 2, 2, none⟩ (.int .i64 y.u)).cell? ⟨w.heap.size + 2, 0, none⟩ = some (.int .i64 y.c) := by go_simp
    have e1 : (((W.setCell ⟨w.heap.size + 2, 0, none⟩ (.int .i64 y.c)).setCell ⟨w.heap.size + 2, 1, none⟩ (.slice y.ita y.it.length y.itd)).setCell ⟨w.heap.size + 2, 2, none⟩ (.int .i64 y.u)).cell? ⟨w.heap.size + 2, 1, none⟩ = some (.slice y.ita y.it.length y.itd) := by go_simp
    have e2 : (((W.setCell ⟨w.heap.size + 2, 0, none⟩ (.int .i64 y.c)).setCell ⟨w.heap.size + 2, 1, none⟩ (.slice y.ita y.it.length y.itd)).setCell ⟨w.heap.size + 2, 2, none⟩ (.int .i64 y.u)).cell? ⟨w.heap.size + 2, 2, none⟩ = some (.int .i64 y.u) := by go_simp
    generalize (((W.setCell ⟨w.heap.size + 2, 0, none⟩ (.int .i64 y.c)).setCell ⟨w.heap.size + 2, 1, none⟩ (.slice y.ita y.it.length y.itd)).setCell ⟨w.heap.size + 2, 2, none⟩ (.int .i64 y.u)) = T at *
    try rw [Exit.noGoto_ret]
    refine ⟨by simp, .inl ⟨_, _, rfl, run_takeDeferred HD2, ?_⟩⟩
    have h2 : w.heap.size + 2 ≠ D := fun e => hD2 e.symm
    replace e0 : (T.putObj D (.deferred none)).cell? ⟨w.heap.size + 2, 0, none⟩ = some (.int .i64 y.c) := (World.cell?_of_block (World.putObj_heap_other h2)).trans e0
    replace e1 : (T.putObj D (.deferred none)).cell? ⟨w.heap.size + 2, 1, none⟩ = some (.slice y.ita y.it.length y.itd) := (World.cell?_of_block (World.putObj_heap_other h2)).trans e1
    replace e2 : (T.putObj D (.deferred none)).cell? ⟨w.heap.size + 2, 2, none⟩ = some (.int .i64 y.u) := (World.cell?_of_block (World.putObj_heap_other h2)).trans e2
    refine ⟨_, results_cell rfl _ _ (by rfl) (snm_load (x := y) e0 e1 e2), ?_, ?_⟩
    · rw [HF.out]; rfl
    · exact HB2.out.grown (grownBy_putObj' _ D _) HB2.out.size (fun j hj => by cases hj; omega)
end Go.Proofs.YtgceecfjammnaaaDoor.L16

/- A region that draws its order, held, in a round of a range over a function. -/
namespace Go.Proofs.YtgceecfjammnaaaDoor
open Go.RowKit

theorem wpOpIn_of_wpOp {l n : Nat} {P : Program} {ops : Array Oper} {Q : Exit → Act → World → Prop} {i : Nat} {K K' : Act → World → Prop} {a : Act} {w : World}
    (hd : ∀ (j : Nat) (o : Oper), ops[j]? = some o → ∀ c, o.op ≠ .defer c) (hno : ¬ LetsOut Q) (hK : ∀ a w, K a w → K' a w) (h : wpOp P ops Q i K a w) : wpOpIn (Fence.wide.inRound l) n P ops Q i K' a w := by
  refine wpOpIn_mono hK ?_
  unfold wpOp at h
  unfold wpOpIn
  cases ho : ops[i]? with
  | none => rw [ho] at h; exact h
  | some o =>
    rw [ho] at h
    simp only [] at h ⊢
    by_cases hw : Region.wanted o (yielded ops a.tmps) = true
    · rw [if_pos hw] at h ⊢
      rcases h with h | ⟨_, h⟩
      · refine ⟨fun _ _ => trivial, ?_⟩
        have hs : o.semAt (Fence.wide.inRound l).round a.eval = execOp a.eval o := Oper.semAt_some l _ _ (hd _ _ ho)
        rw [hs]
        unfold Oper.wp at h
        generalize (execOp a.eval o).run P w = r at *
        cases r with
        | ok x w' =>
          cases x with
          | enter f args => exact ⟨fun k => by simp [Fence.wide] at k, CallsIn.inRound l (callsIn_wide.2 h)⟩
          | row row args => exact ⟨fun k => by simp [Fence.wide] at k, fun c cs _ => let ⟨v, w', r, s⟩ := h c cs; ⟨v, w', r, stepsIn_wide.2 s⟩⟩
          | _ => first | exact h | exact (h : False).elim
        | halt x w' => cases x <;> first | exact h | exact (h : False).elim
      · exact absurd h hno
    · rw [if_neg hw] at h ⊢
      exact ⟨fun _ _ => trivial, h⟩
theorem wpAnyIn_of_wpAny {l n : Nat} {P : Program} {md : Region.Mode} {ops : Array Oper} {Q : Exit → Act → World → Prop}
    (hd : ∀ (j : Nat) (o : Oper), ops[j]? = some o → ∀ c, o.op ≠ .defer c) (hno : ¬ LetsOut Q) : ∀ (fuel : Nat) (listed : Array Bool) (a : Act) (w : World), wpAny P md ops Q fuel listed a w → wpAnyIn (Fence.wide.inRound l) n P md ops Q fuel listed a w
  | 0, _, _, _, h => h
  | fuel + 1, _, _, _, h => ⟨h.1, fun i hi => wpOpIn_of_wpOp hd hno (fun a' w' h' => wpAnyIn_of_wpAny hd hno fuel _ a' w' h') (h.2 i hi)⟩
/-- No operation of a region is a defer statement: by a look. -/
def noDefer (ops : Array Oper) : Bool := ops.all fun o => match o.op with | .defer _ => false | _ => true
theorem noDefer_spec {ops : Array Oper} (h : noDefer ops = true) : ∀ (j : Nat) (o : Oper), ops[j]? = some o → ∀ c, o.op ≠ .defer c := by
  intro j o ho c hc
  have := (Array.all_eq_true.1 h) j (Array.getElem?_eq_some_iff.1 ho).1
  rw [(Array.getElem?_eq_some_iff.1 ho).2, hc] at this
  cases this
theorem wpIn_region_held_drew {l n : Nat} {P : Program} {ops : Array Oper} {Q : Exit → Act → World → Prop} {S : World → Prop} {id : Nat} {a : Act} {w : World} (hm : P.follows .mixedOrders = true) (hd : noDefer ops = true) (hno : ¬ LetsOut Q)
    (hS : S w.drew) (h : S w.drew → wpAnyH P .any ops Q S ops.size (Array.replicate ops.size false) a w.drew) : (Code.region id ops true).wpIn (Fence.wide.inRound l) n P Q a w :=
  wpIn_region_any hm (wpAnyIn_of_wpAny (noDefer_spec hd) hno _ _ _ _ (wpAny_of_held _ _ _ _ (h hS)))
end Go.Proofs.YtgceecfjammnaaaDoor

/- A drawn region, an operation at a time (layer 3 has this in its text H). -/
namespace Go.Proofs.YtgceecfjammnaaaDoor
open Go.RowKit Go.Shelf
attribute [local go_sem] Oper.semAt_some

theorem takeH {P : Program} {ops : Array Oper} {Q : Exit → Act → World → Prop} {md : Region.Mode} {S : World → Prop} {i : Nat} {oi : Oper} (d : Option Tmp) {v : Value} {fuel : Nat} {listed : Array Bool} {a : Act} {w : World} (hi : ops[i]? = some oi) (hd : oi.dst = d)
    (hs : Region.noSelect ops = true) (hf : Region.free md ops listed i = true) (hr : (Region.ready md ops listed).contains i = true)
    (hQ : ∀ c a w, Q (.panic c) (a.put d v) w → Q (.panic c) a w) (hy : YieldsIf P ops S oi v a) (hS : S w)
    (h : wpAnyH P md ops Q S fuel (listed.setIfInBounds i true) (a.put d v) w) : wpAnyH P md ops Q S (fuel + 1) listed a w := by
  subst hd
  exact wpAnyH_take hi hs hf hr hQ hy hS h
theorem wpAnyH_narrow {P : Program} {ops : Array Oper} {Q : Exit → Act → World → Prop} {md : Region.Mode} {S S2 : World → Prop} (hs : ∀ w, S2 w → S w) : ∀ (fuel : Nat) (listed : Array Bool) (a : Act) (w : World), wpAnyH P md ops Q S2 fuel listed a w → wpAnyH P md ops Q S fuel listed a w
  | 0, _, _, _, h => h
  | fuel + 1, _, _, _, h => ⟨h.1, fun i hi => wpOp_mono (fun a' w' h' => ⟨hs _ h'.1, wpAnyH_narrow hs fuel _ a' w' h'.2⟩) (h.2 i hi)⟩
end Go.Proofs.YtgceecfjammnaaaDoor

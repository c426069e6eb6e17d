/- Al, Ri, Rj, Rn, Ch -/
import Derived.Test.YtikpmkidfppknaaGreatDoorZ5
import Derived.Test.YtikpmkidfppknaaGreatDoorZ2
import Derived.Test.YtikpmkidfppknaaGreatDoorZ0
import Derived.Maps.OwnIn
import Derived.Maps.OwnSet
import Derived.Test.YtikpmkidfppknaaGreatDoorZ1
import Derived.Maps.AppendAt
set_option linter.unusedVariables false
set_option linter.unusedSimpArgs false
/- Credentials, all checked. -/
namespace Go.Proofs.YtikpmkidfppknaaGreatDoor
open Go.RowKit Go.Shelf
attribute [local go_sem] Oper.semAt_some

/-- What holds while all are checked. -/
structure AlI (b : Nat) (a : Option Addr) (l : List Crd) (w : World) (pre : List Crd) (Pv : Nat → Prop) (W : World) : Prop where
  c0 : W.cell? ⟨w.heap.size, 0, none⟩ = some (.slice (some ⟨b, 0, none⟩) 3 3)
  c1 : W.cell? ⟨w.heap.size + 1, 0, none⟩ = some (.bool false)
  f1 : W.frozen? ⟨w.heap.size + 1, 0, none⟩ = false
  ok : pre.all credOK = true
  below : Below w.heap.size w W
  pv : ∀ i, Pv i → w.heap.size + 1 < i
theorem AlI.steady (b : Nat) (a : Option Addr) (l : List Crd) (w : World) : Steady (AlI b a l w) := by
  rintro s Pv Pv' X Y ⟨h1, h2, h3, h4, h5, h6⟩ hg hm
  have n0 : ¬ Pv w.heap.size := fun h => by have := h6 _ h; omega
  have n1 : ¬ Pv (w.heap.size + 1) := fun h => by have := h6 _ h; omega
  have z := blt h2
  refine ⟨hg.cell h1 n0, hg.cell h2 n1, (hg.frozen h2 n1).trans h3, h4, hg.below h5 (fun i h => by have := h6 i h; omega), fun i hi => ?_⟩
  rcases hm i hi with h | ⟨h, _⟩
  · exact h6 i h
  · omega
structure AlX (l : List Crd) (w : World) (c : Code) (_ : List Crd) (Pv : Nat → Prop) (W : World) : Prop where
  c : c = .ret
  c1 : W.cell? ⟨w.heap.size + 1, 0, none⟩ = some (.bool false)
  no : l.all credOK = false
  below : Below w.heap.size w W
  pv : ∀ i, Pv i → w.heap.size + 1 < i
theorem AlX.steady (l : List Crd) (w : World) (c : Code) : Steady (AlX l w c) := by
  rintro s Pv Pv' X Y ⟨h0, h2, h4, h5, h6⟩ hg hm
  have n1 : ¬ Pv (w.heap.size + 1) := fun h => by have := h6 _ h; omega
  have z := blt h2
  refine ⟨h0, hg.cell h2 n1, h4, hg.below h5 (fun i h => by have := h6 i h; omega), fun i hi => ?_⟩
  rcases hm i hi with h | ⟨h, _⟩
  · exact h6 i h
  · omega
theorem mem_of_pre {pre l : List Crd} {x : Crd} (h : pre ++ [x] <+: l) : x ∈ l := h.subset (List.mem_append_right _ (List.mem_singleton.2 rfl))
theorem all_false {l : List Crd} {x : Crd} (hx : x ∈ l) (h : credOK x = false) : l.all credOK = false := by
  cases e : l.all credOK
  · rfl
  · rw [List.all_eq_true.1 e x hx] at h; cases h
def fK : Nat → Nat
  | 0 => 37
  | 1 => 38
  | _ => 39
def eK (x : Crd) : Nat → Bool
  | 0 => idOK x
  | 1 => isKeyB x.k
  | _ => spanOK x
theorem of_three (b : Nat) (x : Crd) (w : World) (c0 : w.cell? ⟨b, 0, none⟩ = some (.func (.func 37) #[] #[])) (c1 : w.cell? ⟨b, 1, none⟩ = some (.func (.func 38) #[] #[])) (c2 : w.cell? ⟨b, 2, none⟩ = some (.func (.func 39) #[] #[])) :
    Calls Tryz.prog 62 #[.agg #[.int .i64 x.i, .string x.k, .int .i64 x.f, .int .i64 x.t], .slice (some ⟨b, 0, none⟩) 3 3] w fun y w' => y = .returned (.bool (credOK x)) ∧ Below w.heap.size w w' := by
  have h3 : ∀ i, i < 3 → i = 0 ∨ i = 1 ∨ i = 2 := fun i h => by omega
  refine checkOf_c 3 (by omega) b fK (eK x) x w ?_ ?_ ?_
  · intro i hi
    obtain rfl | rfl | rfl := h3 i hi
    · exact c0
    · exact c1
    · exact c2
  · intro i hi W
    obtain rfl | rfl | rfl := h3 i hi
    · exact hasId_c x W
    · exact hasKey_c x W
    · exact hasSpan_c x W
  · intro i hi args W
    obtain rfl | rfl | rfl := h3 i hi
    · exact enters_of Tryz.func37 (by kernel_rfl) rfl args W
    · exact enters_of Tryz.func38 (by kernel_rfl) rfl args W
    · exact enters_of Tryz.func39 (by kernel_rfl) rfl args W
set_option maxRecDepth 100000 in
set_option maxHeartbeats 4000000 in
theorem all_c (a : Option Addr) (cap : Nat) (l : List Crd) (hs : l.length ≤ 100000) (b : Nat) (w : World) (hA : CrdAt w.heap.size w a l) (c0 : w.cell? ⟨b, 0, none⟩ = some (.func (.func 37) #[] #[])) (c1 : w.cell? ⟨b, 1, none⟩ = some (.func (.func 38) #[] #[])) (c2 : w.cell? ⟨b, 2, none⟩ = some (.func (.func 39) #[] #[])) :
    Calls Tryz.prog 36 #[.slice a l.length cap, .slice (some ⟨b, 0, none⟩) 3 3] w fun y w' => y = .returned (.bool (l.all credOK)) ∧ Below w.heap.size w w' := by
  refine (callsIn_wide (n := 8)).1 ?_
  have HE := Lib.hid (fun W => each_c a l.length cap W)
  have HA := Lib.hid hA
  have HC := Lib.hid (And.intro c0 (And.intro c1 c2))
  clear hA c0 c1 c2
  refine callsIn_of_wp_marks Tryz.func36 rfl trivial ?_ rfl
  simp only [Tryz.ntmps36, List.size_toArray, List.length_cons, List.length_nil, Nat.reduceAdd, Nat.reduceSub, Array.replicate_succ, Array.replicate_zero, List.push_toArray, List.append_toArray, List.nil_append, List.cons_append]
  gi_wp2_with fail
  refine ⟨trivial, (callsIn_wide.2 (HE.out _)).mono ?_⟩
  rintro e w' ⟨rfl, rfl⟩
  clear HE
  have hst : (((w.alloc (.cells #[.slice (some ⟨b, 0, none⟩) 3 3] 91)).alloc (.cells #[.bool false] 4)).alloc (.cells #[.slice a l.length cap] 55)).cell? ⟨w.heap.size + 2, 0, none⟩ = some (.slice a l.length cap) := by
    have := (Boxed.new ((w.alloc (.cells #[.slice (some ⟨b, 0, none⟩) 3 3] 91)).alloc (.cells #[.bool false] 4)) 55 (.slice a l.length cap)).cell
    rw [World.size_alloc, World.size_alloc] at this
    exact this
  have hI : AlI b a l w [] (fun i => i = w.heap.size + 2) (((w.alloc (.cells #[.slice (some ⟨b, 0, none⟩) 3 3] 91)).alloc (.cells #[.bool false] 4)).alloc (.cells #[.slice a l.length cap] 55)) := ⟨by go_simp, by go_simp, by go_simp, rfl, bal (bal (below_alloc w _) _) _, fun i h => by omega⟩
  have hsb : ((w.alloc (.cells #[.slice (some ⟨b, 0, none⟩) 3 3] 91)).alloc (.cells #[.bool false] 4)).heap.size = w.heap.size + 2 := by simp
  simp only [hsb]
  generalize (((w.alloc (.cells #[.slice (some ⟨b, 0, none⟩) 3 3] 91)).alloc (.cells #[.bool false] 4)).alloc (.cells #[.slice a l.length cap] 55)) = Z at *
  have HBI := Lib.hid (values_it 7 (by omega) a cap l hs w.heap.size (w.heap.size + 2) Z hst)
  clear hsb
  gi_wp2_with fail
  refine wpIn_range_itersG (n := 8) (encs := fun x => #[crdV x]) (ps := #[8]) rfl (by omega) (gf := 89) (lb := #[.pointer (some ⟨w.heap.size + 2, 0, none⟩)]) rfl trivial (enters_of Tryz.func89 (by kernel_rfl) rfl)
    HBI.out (Below.refl _ _) (fun _ => rfl) (fun i h => by rw [h]; exact blt hst) (AlI b a l w) (AlX l w) (fun s Pv W h => HA.out.below h.below) (AlI.steady b a l w) ?steadyx hI ?round ?done ?stop
  case steadyx => exact fun c => AlX.steady l w c
  case round =>
    clear HBI hI
    rintro K pre x Pv W hc hI2 hPl hll ⟨rec, hrec⟩
    simp only [crdV]
    gi_wp2
    refine ⟨(Mid.refl Pv W).alloc _, fun W2 hG hr2 => ?_⟩
    have hKW : K < W.heap.size := (Array.getElem?_eq_some_iff.1 hrec).1
    have x0 : (W.alloc (.cells #[.int .i64 x.i, .string x.k, .int .i64 x.f, .int .i64 x.t] 37)).cell? ⟨W.heap.size, 0, none⟩ = some (.int .i64 x.i) := by go_simp
    have x1 : (W.alloc (.cells #[.int .i64 x.i, .string x.k, .int .i64 x.f, .int .i64 x.t] 37)).cell? ⟨W.heap.size, 1, none⟩ = some (.string x.k) := by go_simp
    have x2 : (W.alloc (.cells #[.int .i64 x.i, .string x.k, .int .i64 x.f, .int .i64 x.t] 37)).cell? ⟨W.heap.size, 2, none⟩ = some (.int .i64 x.f) := by go_simp
    have x3 : (W.alloc (.cells #[.int .i64 x.i, .string x.k, .int .i64 x.f, .int .i64 x.t] 37)).cell? ⟨W.heap.size, 3, none⟩ = some (.int .i64 x.t) := by go_simp
    replace x0 := hG.cell x0 (fun h => by omega)
    replace x1 := hG.cell x1 (fun h => by omega)
    replace x2 := hG.cell x2 (fun h => by omega)
    replace x3 := hG.cell x3 (fun h => by omega)
    have hI3 := AlI.steady b a l w _ _ _ _ _ (AlI.steady b a l w _ _ _ _ _ hI2 (Goes.of_below (below_alloc W (.cells #[.int .i64 x.i, .string x.k, .int .i64 x.f, .int .i64 x.t] 37))) (More.same _ _ _)) (hG.mono (fun i h => h ▸ hPl)) (More.same _ _ _)
    have hx := mem_of_pre hc
    clear hI2 hG hr2 hrec hll hc
    obtain ⟨q0, q1, f1, hok, hbw, hpv⟩ := hI3
    obtain ⟨d0, d1, d2⟩ := HC.out
    have HX := Lib.hid (of_three b x W2 ((hbw.cell (blt d0)).trans d0) ((hbw.cell (blt d1)).trans d1) ((hbw.cell (blt d2)).trans d2))
    clear d0 d1 d2
    generalize W.heap.size = B at *
    cases hxo : credOK x
    · rw [hxo] at HX
      have HN := Lib.hid (all_false hx hxo)
      have HB := Lib.hid hbw
      have HP := Lib.hid hpv
      have z1 := blt q1
      clear hxo hx hok hbw hpv
      gi_wp2_with fail
      refine ⟨trivial, (CallsIn.inRound K (callsIn_wide.2 HX.out)).mono ?_⟩
      (rintro e w1 ⟨rfl, hb⟩; have q1' := (hb.cell (blt q1)).trans q1; have f1' := (hb.frozen (blt q1)).trans f1; have HB1 := Lib.hid hb; clear hb)
      gi_wp2
      refine ⟨⟨rfl, by go_simp, HN.out, (btr HB.out HB1.out).setCell (by show w.heap.size ≤ w.heap.size + 1; omega) _, HP.out⟩, (Mid.of_below HB1.out).setCell _ (fun h => by have := HP.out _ h; omega)⟩
    · rw [hxo] at HX
      have HO := Lib.hid (show (pre ++ [x]).all credOK = true by rw [List.all_append, hok]; simp [hxo])
      have HB := Lib.hid hbw
      have HP := Lib.hid hpv
      clear hxo hx hok hbw hpv
      gi_wp2_with fail
      refine ⟨trivial, (CallsIn.inRound K (callsIn_wide.2 HX.out)).mono ?_⟩
      (rintro e w1 ⟨rfl, hb⟩; have q0' := (hb.cell (blt q0)).trans q0; have q1' := (hb.cell (blt q1)).trans q1; have f1' := (hb.frozen (blt q1)).trans f1; have HB1 := Lib.hid hb; clear hb)
      gi_wp2
      exact ⟨⟨q0', q1', f1', HO.out, btr HB.out HB1.out, HP.out⟩, Mid.of_below HB1.out⟩
  case done =>
    rintro D xs Pv W hlD hpD rfl ⟨q0, q1, f1, hok, hbw, hpv⟩ hdef
    have HBW := Lib.hid hbw
    have HD := Lib.hid hdef
    have HO := Lib.hid hok
    have hDW : D < W.heap.size := (Array.getElem?_eq_some_iff.1 hdef).1
    have z1 := blt q1
    have zD := blt hst
    clear hbw hdef hpv hok hI HBI hst
    gi_wp2
    have HD2 : (W.setCell ⟨w.heap.size + 1, 0, none⟩ (.bool true)).heap[D]? = some (.deferred (some [])) := (Below.heap_setCell W ⟨w.heap.size + 1, 0, none⟩ _ D (by show D ≠ w.heap.size + 1; omega)).trans HD.out
    have e1 : (W.setCell ⟨w.heap.size + 1, 0, none⟩ (.bool true)).cell? ⟨w.heap.size + 1, 0, none⟩ = some (.bool true) := by go_simp
    have HB2 := Lib.hid (HBW.out.setCell (p := ⟨w.heap.size + 1, 0, none⟩) (by show w.heap.size ≤ w.heap.size + 1; omega) (.bool true))
    refine ⟨by simp, .inl ⟨_, _, rfl, run_takeDeferred HD2, ?_⟩⟩
    have e2 : ((W.setCell ⟨w.heap.size + 1, 0, none⟩ (.bool true)).putObj D (.deferred none)).cell? ⟨w.heap.size + 1, 0, none⟩ = some (.bool true) := (World.cell?_of_block (World.putObj_heap_other (by show w.heap.size + 1 ≠ D; omega))).trans e1
    refine ⟨_, results_cell rfl _ _ (by rfl) (show (loadVar 4 ⟨w.heap.size + 1, 0, none⟩).run Tryz.prog _ = .ok (.bool true) _ by simp [loadVar, isAgg, underlying, Tryz.underlying4, e2]), ?_, ?_⟩
    · rw [HO.out]
    · exact HB2.out.grown (grownBy_putObj' _ D _) HB2.out.size (fun j hj => by cases hj; omega)
  case stop =>
    rintro D c pre Pv W hlD hpD hSp ⟨rfl, q1, hno, hbw, hpv⟩ hdef
    have HBW := Lib.hid hbw
    have HD := Lib.hid hdef
    have HN := Lib.hid hno
    have hDW : D < W.heap.size := (Array.getElem?_eq_some_iff.1 hdef).1
    have zD := blt hst
    clear hbw hdef hpv hno hI HBI hst
    gi_wp2
    refine ⟨by simp, .inl ⟨_, _, rfl, run_takeDeferred HD.out, ?_⟩⟩
    have e2 : (W.putObj D (.deferred none)).cell? ⟨w.heap.size + 1, 0, none⟩ = some (.bool false) := (World.cell?_of_block (World.putObj_heap_other (by show w.heap.size + 1 ≠ D; omega))).trans q1
    refine ⟨_, results_cell rfl _ _ (by rfl) (show (loadVar 4 ⟨w.heap.size + 1, 0, none⟩).run Tryz.prog _ = .ok (.bool false) _ by simp [loadVar, isAgg, underlying, Tryz.underlying4, e2]), ?_, ?_⟩
    · rw [HN.out]
    · exact HBW.out.grown (grownBy_putObj' _ D _) HBW.out.size (fun j hj => by cases hj; omega)
end Go.Proofs.YtikpmkidfppknaaGreatDoor

/- Credentials that rise; the map of them; Right. -/
namespace Go.Proofs.YtikpmkidfppknaaGreatDoor
open Go.RowKit Go.Shelf
attribute [local go_sem] Oper.semAt_some

set_option maxRecDepth 100000 in
set_option maxHeartbeats 4000000 in
theorem cmp_c (x y : Crd) (hx : 1 ≤ x.i ∧ x.i ≤ 1000000000) (hy : 1 ≤ y.i ∧ y.i ≤ 1000000000) (w : World) : Calls Tryz.prog 64 #[.agg #[.int .i64 x.i, .string x.k, .int .i64 x.f, .int .i64 x.t], .agg #[.int .i64 y.i, .string y.k, .int .i64 y.f, .int .i64 y.t]] w fun r w' => r = .returned (.int .i64 (x.i - y.i)) ∧ Below w.heap.size w w' := by
  obtain ⟨h0, h1⟩ := hx
  obtain ⟨h2, h3⟩ := hy
  go_enter Tryz.func64, Tryz.ntmps64
  go_wp2
  go_ret
  exact ⟨rfl, bal (below_alloc _ _) _⟩
theorem ids_get (l : List Crd) (k : Nat) (h : k < l.length) : (idsL l).getD k 0 = (l[k]'h).i := by
  rw [List.getD_eq_getElem?_getD, idsL, List.getElem?_map, List.getElem?_eq_getElem h]
  rfl
theorem sort_no {l : List Crd} {q : Nat} (h : q + 1 < l.length) (hq : l[q + 1].i < l[q].i) : sortB l = false := by
  refine decide_eq_false (fun e => ?_)
  have := e q (by omega)
  rw [ids_get l q (by omega), ids_get l (q + 1) h] at this
  omega
theorem sort_yes {l : List Crd} (h : ∀ k, k < l.length - 1 → (idsL l).getD k 0 ≤ (idsL l).getD (k + 1) 0) : sortB l = true := decide_eq_true h
theorem ok_id {x : Crd} (h : credOK x = true) : 1 ≤ x.i ∧ x.i ≤ 1000000000 := by
  simp only [credOK, idOK, Bool.and_eq_true, decide_eq_true_eq] at h
  exact h.1
set_option maxRecDepth 100000 in
set_option maxHeartbeats 4000000 in
theorem sorted_c (a : Option Addr) (cap : Nat) (l : List Crd) (hs : l.length ≤ 100000) (hok : ∀ x ∈ l, 1 ≤ x.i ∧ x.i ≤ 1000000000) (w : World) (hA : CrdAt w.heap.size w a l) :
    Calls Tryz.prog 63 #[.slice a l.length cap, .func (.func 64) #[] #[]] w fun y w' => y = .returned (.bool (sortB l)) ∧ Below w.heap.size w w' := by
  have HO := Lib.hid hok
  have HA := Lib.hid hA
  have ew : IntKind.i64.wrap ((l.length : Int) - 1) = (l.length : Int) - 1 := IntWalk.i64_in _ (by omega)
  clear hok hA
  go_enter Tryz.func63, Tryz.ntmps63
  go_wp2
  clear ew
  go_loopw [5] (fun i wr => ∃ (z : Int) (m : Nat), i = .int .i64 z ∧ Hid (z = (m : Int) - 1) ∧ Hid (m ≤ l.length) ∧ Hid (∀ k, m ≤ k + 1 → k < l.length - 1 → (idsL l).getD k 0 ≤ (idsL l).getD (k + 1) 0) ∧ Hid (Below w.heap.size w wr)) (fun i _ => (intOf i + 1).toNat)
  case atStart => exact ⟨_, l.length, rfl, Lib.hid rfl, Lib.hid (Nat.le_refl _), Lib.hid (fun k h1 h2 => by omega), Lib.hid (Below.refl _ _)⟩
  case round =>
    obtain ⟨z, m, rfl, hz, hm, hk, hb⟩ := hrel
    by_cases h2 : 2 ≤ m
    · obtain ⟨q, hq⟩ : ∃ q, m = q + 2 := ⟨m - 2, by omega⟩
      have hql : q + 1 < l.length := by have := hm.out; omega
      obtain ⟨p, hp⟩ : ∃ p, p = q + 1 := ⟨_, rfl⟩
      obtain rfl : z = (p : Int) := by have := hz.out; omega
      have hpl : p < l.length := by omega
      obtain ⟨b, off, rfl, hbn, c0, c1, c2, c3⟩ := HA.out p hpl
      obtain ⟨b', off', he, hbn', d0, d1, d2, d3⟩ := HA.out q (by omega)
      obtain ⟨rfl, rfl⟩ : b = b' ∧ off = off' := by
        have := Option.some.inj he
        injection this with e1 e2
        exact ⟨e1, e2⟩
      clear he
      have HX := Lib.hid (show l[p].i < l[q].i → sortB l = false from fun h => sort_no hql (by subst hp; exact h))
      have HY := Lib.hid (show l[q].i ≤ l[p].i → ∀ k, p ≤ k + 1 → k < l.length - 1 → (idsL l).getD k 0 ≤ (idsL l).getD (k + 1) 0 from fun h k h1 h3 => by
        by_cases e : k = q
        · rw [e, ids_get l q (by omega), ids_get l (q + 1) hql]; subst hp; exact h
        · exact hk.out k (by omega) h3)
      have CM := Lib.hid (fun W => cmp_c (l[p]) (l[q]) (HO.out _ (List.getElem_mem hpl)) (HO.out _ (List.getElem_mem (show q < l.length by omega))) W)
      have bx := HO.out _ (List.getElem_mem hpl)
      have by' := HO.out _ (List.getElem_mem (show q < l.length by omega))
      generalize l[p] = x at *
      generalize l[q] = y at *
      have hp0 : (0 : Int) < (p : Int) := by omega
      have hpl' : (p : Int) < (l.length : Int) := by omega
      have hql' : (q : Int) < (l.length : Int) := by omega
      have hql2 : q < l.length := by omega
      have ep : IntKind.i64.wrap ((p : Int) - 1) = (q : Int) := by rw [IntWalk.i64_in _ (by omega)]; omega
      have HP := Lib.hid (And.intro hp hq)
      have ep2 : (p : Int) - 1 = (q : Int) := by omega
      have ep3 : IntKind.i64.wrap (q : Int) = (q : Int) := IntWalk.i64_in _ (by omega)
      replace c0 := (hb.out.cell (blt c0)).trans c0
      replace c1 := (hb.out.cell (blt c1)).trans c1
      replace c2 := (hb.out.cell (blt c2)).trans c2
      replace c3 := (hb.out.cell (blt c3)).trans c3
      replace d0 := (hb.out.cell (blt d0)).trans d0
      replace d1 := (hb.out.cell (blt d1)).trans d1
      replace d2 := (hb.out.cell (blt d2)).trans d2
      replace d3 := (hb.out.cell (blt d3)).trans d3
      clear ep hp hq h2 hql hbn hbn'
      by_cases hlt : x.i < y.i
      · have hd : decide (x.i - y.i < 0) = true := decide_eq_true (by omega)
        have HR := Lib.hid (HX.out hlt)
        clear hlt bx by' HX HY
        go_wp2_with fail
        have u0 : Below wr.heap.size wr wr := Below.refl _ wr
        have MK := Lib.hid (show ∀ w', Below wr.heap.size wr w' → w'.cell? ⟨b, off + p * 4, none⟩ = some (.int .i64 x.i) ∧ w'.cell? ⟨b, off + p * 4 + 1, none⟩ = some (.string x.k) ∧ w'.cell? ⟨b, off + p * 4 + 2, none⟩ = some (.int .i64 x.f) ∧ w'.cell? ⟨b, off + p * 4 + 3, none⟩ = some (.int .i64 x.t) ∧ w'.cell? ⟨b, off + q * 4, none⟩ = some (.int .i64 y.i) ∧ w'.cell? ⟨b, off + q * 4 + 1, none⟩ = some (.string y.k) ∧ w'.cell? ⟨b, off + q * 4 + 2, none⟩ = some (.int .i64 y.f) ∧ w'.cell? ⟨b, off + q * 4 + 3, none⟩ = some (.int .i64 y.t) ∧ Below wr.heap.size wr w' from fun w' h => ⟨(h.cell (blt c0)).trans c0, (h.cell (blt c1)).trans c1, (h.cell (blt c2)).trans c2, (h.cell (blt c3)).trans c3, (h.cell (blt d0)).trans d0, (h.cell (blt d1)).trans d1, (h.cell (blt d2)).trans d2, (h.cell (blt d3)).trans d3, h⟩)
        refine wp_region_held_drew (S := (fun w' => w'.cell? ⟨b, off + p * 4, none⟩ = some (.int .i64 x.i) ∧ w'.cell? ⟨b, off + p * 4 + 1, none⟩ = some (.string x.k) ∧ w'.cell? ⟨b, off + p * 4 + 2, none⟩ = some (.int .i64 x.f) ∧ w'.cell? ⟨b, off + p * 4 + 3, none⟩ = some (.int .i64 x.t) ∧ w'.cell? ⟨b, off + q * 4, none⟩ = some (.int .i64 y.i) ∧ w'.cell? ⟨b, off + q * 4 + 1, none⟩ = some (.string y.k) ∧ w'.cell? ⟨b, off + q * 4 + 2, none⟩ = some (.int .i64 y.f) ∧ w'.cell? ⟨b, off + q * 4 + 3, none⟩ = some (.int .i64 y.t) ∧ Below wr.heap.size wr w')) (by kernel_rfl) ?_ (fun hHeld => ?_)
        · (first | with_reducible assumption | exact MK.out _ (by with_reducible assumption) | exact MK.out _ (below_drew (by with_reducible assumption)))
        refine takeH (i := 0) (some 13) (v := ?_) rfl rfl (by kernel_rfl) (by kernel_rfl) (by kernel_rfl) (fun _ _ _ h => h) (Or.inl ⟨by rfl, ?hyA0⟩) hHeld ?restA0
        case hyA0 => (intro w hSw; (try dsimp only at hSw); go_simp; (try with_reducible rfl))
        try simp only [Act.put, List.setIfInBounds_toArray, List.set_cons_zero, List.set_cons_succ]
        refine takeH (i := 1) (some 14) (v := ?_) rfl rfl (by kernel_rfl) (by kernel_rfl) (by kernel_rfl) (fun _ _ _ h => h) (Or.inl ⟨by rfl, ?hyA1⟩) hHeld ?restA1
        case hyA1 => (intro w hSw; (try dsimp only at hSw); go_simp; (try with_reducible rfl))
        try simp only [Act.put, List.setIfInBounds_toArray, List.set_cons_zero, List.set_cons_succ]
        refine takeH (i := 2) (some 15) (v := ?_) rfl rfl (by kernel_rfl) (by kernel_rfl) (by kernel_rfl) (fun _ _ _ h => h) (Or.inl ⟨by rfl, ?hyA2⟩) hHeld ?restA2
        case hyA2 => (intro w hSw; (try dsimp only at hSw); go_simp; (try with_reducible rfl))
        try simp only [Act.put, List.setIfInBounds_toArray, List.set_cons_zero, List.set_cons_succ]
        refine takeH (i := 3) (some 16) (v := ?_) rfl rfl (by kernel_rfl) (by kernel_rfl) (by kernel_rfl) (fun _ _ _ h => h) (Or.inl ⟨by rfl, ?hyA3⟩) hHeld ?restA3
        case hyA3 => (intro w hSw; (try dsimp only at hSw); go_simp; (try with_reducible rfl))
        try simp only [Act.put, List.setIfInBounds_toArray, List.set_cons_zero, List.set_cons_succ]
        refine takeH (i := 4) (some 17) (v := ?_) rfl rfl (by kernel_rfl) (by kernel_rfl) (by kernel_rfl) (fun _ _ _ h => h) (Or.inl ⟨by rfl, ?hyA4⟩) hHeld ?restA4
        case hyA4 => (intro w hSw; (try dsimp only at hSw); go_simp; (try with_reducible rfl))
        try simp only [Act.put, List.setIfInBounds_toArray, List.set_cons_zero, List.set_cons_succ]
        refine takeH (i := 5) (some 18) (v := ?_) rfl rfl (by kernel_rfl) (by kernel_rfl) (by kernel_rfl) (fun _ _ _ h => h) (Or.inl ⟨by rfl, ?hyA5⟩) hHeld ?restA5
        case hyA5 => (intro w hSw; (try dsimp only at hSw); go_simp; (try with_reducible rfl))
        try simp only [Act.put, List.setIfInBounds_toArray, List.set_cons_zero, List.set_cons_succ]
        refine takeH (i := 6) (some 19) (v := ?_) rfl rfl (by kernel_rfl) (by kernel_rfl) (by kernel_rfl) (fun _ _ _ h => h) (Or.inl ⟨by rfl, ?hyA6⟩) hHeld ?restA6
        case hyA6 => (intro w hSw; (try dsimp only at hSw); go_simp; (try with_reducible rfl))
        try simp only [Act.put, List.setIfInBounds_toArray, List.set_cons_zero, List.set_cons_succ]
        refine takeH (i := 7) (some 20) (v := ?_) rfl rfl (by kernel_rfl) (by kernel_rfl) (by kernel_rfl) (fun _ _ _ h => h) (Or.inl ⟨by rfl, ?hyA7⟩) hHeld ?restA7
        case hyA7 => (intro w hSw; (try dsimp only at hSw); go_simp; (try with_reducible rfl))
        try simp only [Act.put, List.setIfInBounds_toArray, List.set_cons_zero, List.set_cons_succ]
        refine takeH (i := 8) (some 21) (v := ?_) rfl rfl (by kernel_rfl) (by kernel_rfl) (by kernel_rfl) (fun _ _ _ h => h) (Or.inl ⟨by rfl, ?hyA8⟩) hHeld ?restA8
        case hyA8 => (intro w hSw; (try dsimp only at hSw); go_simp; (try with_reducible rfl))
        try simp only [Act.put, List.setIfInBounds_toArray, List.set_cons_zero, List.set_cons_succ]
        refine takeH (i := 9) (some 22) (v := ?_) rfl rfl (by kernel_rfl) (by kernel_rfl) (by kernel_rfl) (fun _ _ _ h => h) (Or.inl ⟨by rfl, ?hyA9⟩) hHeld ?restA9
        case hyA9 => (intro w hSw; (try dsimp only at hSw); go_simp; (try with_reducible rfl))
        try simp only [Act.put, List.setIfInBounds_toArray, List.set_cons_zero, List.set_cons_succ]
        refine wpAnyH_ready (rs := [10]) (by kernel_rfl) (by simp) ?_
        refine AllReadyH.cons rfl (fun K hK => ?_) AllReadyH.nil
        go_simp
        with_reducible refine (CM.out _).mono ?_; rintro e wn ⟨rfl, pB⟩; have sB := btr hHeld.2.2.2.2.2.2.2.2 pB; clear pB hHeld
        refine hK.out _ _ ?_ (fun hHeld => ?_)
        · (first | with_reducible assumption | exact MK.out _ (by with_reducible assumption) | exact MK.out _ (below_drew (by with_reducible assumption)))
        clear hK K
        try simp only [Act.put, List.setIfInBounds_toArray, List.set_cons_zero, List.set_cons_succ]
        refine takeH (i := 11) (some 24) (v := ?_) rfl rfl (by kernel_rfl) (by kernel_rfl) (by kernel_rfl) (fun _ _ _ h => h) (Or.inl ⟨by rfl, ?hyA11⟩) hHeld ?restA11
        case hyA11 => (intro w hSw; (try dsimp only at hSw); go_simp; (try with_reducible rfl))
        try simp only [Act.put, List.setIfInBounds_toArray, List.set_cons_zero, List.set_cons_succ]
        refine wpAnyH_done (by kernel_rfl) ?_ _
        have HB := Lib.hid (btr hb.out hHeld.2.2.2.2.2.2.2.2)
        clear hHeld
        go_wp2
        go_ret
        exact ⟨(by show Ending.returned (.bool false) = _; rw [HR.out]), HB.out⟩
      · have hd : decide (x.i - y.i < 0) = false := decide_eq_false (by omega)
        have HR := Lib.hid (HY.out (by omega))
        clear hlt bx by' HX HY
        go_wp2_with fail
        have u0 : Below wr.heap.size wr wr := Below.refl _ wr
        have MK := Lib.hid (show ∀ w', Below wr.heap.size wr w' → w'.cell? ⟨b, off + p * 4, none⟩ = some (.int .i64 x.i) ∧ w'.cell? ⟨b, off + p * 4 + 1, none⟩ = some (.string x.k) ∧ w'.cell? ⟨b, off + p * 4 + 2, none⟩ = some (.int .i64 x.f) ∧ w'.cell? ⟨b, off + p * 4 + 3, none⟩ = some (.int .i64 x.t) ∧ w'.cell? ⟨b, off + q * 4, none⟩ = some (.int .i64 y.i) ∧ w'.cell? ⟨b, off + q * 4 + 1, none⟩ = some (.string y.k) ∧ w'.cell? ⟨b, off + q * 4 + 2, none⟩ = some (.int .i64 y.f) ∧ w'.cell? ⟨b, off + q * 4 + 3, none⟩ = some (.int .i64 y.t) ∧ Below wr.heap.size wr w' from fun w' h => ⟨(h.cell (blt c0)).trans c0, (h.cell (blt c1)).trans c1, (h.cell (blt c2)).trans c2, (h.cell (blt c3)).trans c3, (h.cell (blt d0)).trans d0, (h.cell (blt d1)).trans d1, (h.cell (blt d2)).trans d2, (h.cell (blt d3)).trans d3, h⟩)
        refine wp_region_held_drew (S := (fun w' => w'.cell? ⟨b, off + p * 4, none⟩ = some (.int .i64 x.i) ∧ w'.cell? ⟨b, off + p * 4 + 1, none⟩ = some (.string x.k) ∧ w'.cell? ⟨b, off + p * 4 + 2, none⟩ = some (.int .i64 x.f) ∧ w'.cell? ⟨b, off + p * 4 + 3, none⟩ = some (.int .i64 x.t) ∧ w'.cell? ⟨b, off + q * 4, none⟩ = some (.int .i64 y.i) ∧ w'.cell? ⟨b, off + q * 4 + 1, none⟩ = some (.string y.k) ∧ w'.cell? ⟨b, off + q * 4 + 2, none⟩ = some (.int .i64 y.f) ∧ w'.cell? ⟨b, off + q * 4 + 3, none⟩ = some (.int .i64 y.t) ∧ Below wr.heap.size wr w')) (by kernel_rfl) ?_ (fun hHeld => ?_)
        · (first | with_reducible assumption | exact MK.out _ (by with_reducible assumption) | exact MK.out _ (below_drew (by with_reducible assumption)))
        refine takeH (i := 0) (some 13) (v := ?_) rfl rfl (by kernel_rfl) (by kernel_rfl) (by kernel_rfl) (fun _ _ _ h => h) (Or.inl ⟨by rfl, ?hyB0⟩) hHeld ?restB0
        case hyB0 => (intro w hSw; (try dsimp only at hSw); go_simp; (try with_reducible rfl))
        try simp only [Act.put, List.setIfInBounds_toArray, List.set_cons_zero, List.set_cons_succ]
        refine takeH (i := 1) (some 14) (v := ?_) rfl rfl (by kernel_rfl) (by kernel_rfl) (by kernel_rfl) (fun _ _ _ h => h) (Or.inl ⟨by rfl, ?hyB1⟩) hHeld ?restB1
        case hyB1 => (intro w hSw; (try dsimp only at hSw); go_simp; (try with_reducible rfl))
        try simp only [Act.put, List.setIfInBounds_toArray, List.set_cons_zero, List.set_cons_succ]
        refine takeH (i := 2) (some 15) (v := ?_) rfl rfl (by kernel_rfl) (by kernel_rfl) (by kernel_rfl) (fun _ _ _ h => h) (Or.inl ⟨by rfl, ?hyB2⟩) hHeld ?restB2
        case hyB2 => (intro w hSw; (try dsimp only at hSw); go_simp; (try with_reducible rfl))
        try simp only [Act.put, List.setIfInBounds_toArray, List.set_cons_zero, List.set_cons_succ]
        refine takeH (i := 3) (some 16) (v := ?_) rfl rfl (by kernel_rfl) (by kernel_rfl) (by kernel_rfl) (fun _ _ _ h => h) (Or.inl ⟨by rfl, ?hyB3⟩) hHeld ?restB3
        case hyB3 => (intro w hSw; (try dsimp only at hSw); go_simp; (try with_reducible rfl))
        try simp only [Act.put, List.setIfInBounds_toArray, List.set_cons_zero, List.set_cons_succ]
        refine takeH (i := 4) (some 17) (v := ?_) rfl rfl (by kernel_rfl) (by kernel_rfl) (by kernel_rfl) (fun _ _ _ h => h) (Or.inl ⟨by rfl, ?hyB4⟩) hHeld ?restB4
        case hyB4 => (intro w hSw; (try dsimp only at hSw); go_simp; (try with_reducible rfl))
        try simp only [Act.put, List.setIfInBounds_toArray, List.set_cons_zero, List.set_cons_succ]
        refine takeH (i := 5) (some 18) (v := ?_) rfl rfl (by kernel_rfl) (by kernel_rfl) (by kernel_rfl) (fun _ _ _ h => h) (Or.inl ⟨by rfl, ?hyB5⟩) hHeld ?restB5
        case hyB5 => (intro w hSw; (try dsimp only at hSw); go_simp; (try with_reducible rfl))
        try simp only [Act.put, List.setIfInBounds_toArray, List.set_cons_zero, List.set_cons_succ]
        refine takeH (i := 6) (some 19) (v := ?_) rfl rfl (by kernel_rfl) (by kernel_rfl) (by kernel_rfl) (fun _ _ _ h => h) (Or.inl ⟨by rfl, ?hyB6⟩) hHeld ?restB6
        case hyB6 => (intro w hSw; (try dsimp only at hSw); go_simp; (try with_reducible rfl))
        try simp only [Act.put, List.setIfInBounds_toArray, List.set_cons_zero, List.set_cons_succ]
        refine takeH (i := 7) (some 20) (v := ?_) rfl rfl (by kernel_rfl) (by kernel_rfl) (by kernel_rfl) (fun _ _ _ h => h) (Or.inl ⟨by rfl, ?hyB7⟩) hHeld ?restB7
        case hyB7 => (intro w hSw; (try dsimp only at hSw); go_simp; (try with_reducible rfl))
        try simp only [Act.put, List.setIfInBounds_toArray, List.set_cons_zero, List.set_cons_succ]
        refine takeH (i := 8) (some 21) (v := ?_) rfl rfl (by kernel_rfl) (by kernel_rfl) (by kernel_rfl) (fun _ _ _ h => h) (Or.inl ⟨by rfl, ?hyB8⟩) hHeld ?restB8
        case hyB8 => (intro w hSw; (try dsimp only at hSw); go_simp; (try with_reducible rfl))
        try simp only [Act.put, List.setIfInBounds_toArray, List.set_cons_zero, List.set_cons_succ]
        refine takeH (i := 9) (some 22) (v := ?_) rfl rfl (by kernel_rfl) (by kernel_rfl) (by kernel_rfl) (fun _ _ _ h => h) (Or.inl ⟨by rfl, ?hyB9⟩) hHeld ?restB9
        case hyB9 => (intro w hSw; (try dsimp only at hSw); go_simp; (try with_reducible rfl))
        try simp only [Act.put, List.setIfInBounds_toArray, List.set_cons_zero, List.set_cons_succ]
        refine wpAnyH_ready (rs := [10]) (by kernel_rfl) (by simp) ?_
        refine AllReadyH.cons rfl (fun K hK => ?_) AllReadyH.nil
        go_simp
        with_reducible refine (CM.out _).mono ?_; rintro e wn ⟨rfl, pB⟩; have sB := btr hHeld.2.2.2.2.2.2.2.2 pB; clear pB hHeld
        refine hK.out _ _ ?_ (fun hHeld => ?_)
        · (first | with_reducible assumption | exact MK.out _ (by with_reducible assumption) | exact MK.out _ (below_drew (by with_reducible assumption)))
        clear hK K
        try simp only [Act.put, List.setIfInBounds_toArray, List.set_cons_zero, List.set_cons_succ]
        refine takeH (i := 11) (some 24) (v := ?_) rfl rfl (by kernel_rfl) (by kernel_rfl) (by kernel_rfl) (fun _ _ _ h => h) (Or.inl ⟨by rfl, ?hyB11⟩) hHeld ?restB11
        case hyB11 => (intro w hSw; (try dsimp only at hSw); go_simp; (try with_reducible rfl))
        try simp only [Act.put, List.setIfInBounds_toArray, List.set_cons_zero, List.set_cons_succ]
        refine wpAnyH_done (by kernel_rfl) ?_ _
        have HB := Lib.hid (btr hb.out hHeld.2.2.2.2.2.2.2.2)
        clear hHeld c0 c1 c2 c3 d0 d1 d2 d3
        go_wp2
        go_roundw
        case rel => exact ⟨_, p, rfl, Lib.hid (by have := HP.out.1; omega), Lib.hid (by omega), HR, HB⟩
        case measure => simp [intOf]; omega
    · have hz0 : ¬ (0 : Int) < z := by have := hz.out; omega
      have HS := Lib.hid (sort_yes (l := l) (fun k hkl => by
        by_cases e : m ≤ k + 1
        · exact hk.out k e hkl
        · omega))
      clear hz h2
      go_wp2
      go_ret
      exact ⟨(by show Ending.returned (.bool true) = _; rw [HS.out]), hb.out⟩
end Go.Proofs.YtikpmkidfppknaaGreatDoor

/- The map of credentials; those that rise; Right. -/
namespace Go.Proofs.YtikpmkidfppknaaGreatDoor
open Go.RowKit Go.Shelf
attribute [local go_sem] Oper.semAt_some

/-- How a credential in a map reads. -/
def fldV : Value → Nat → Value
  | .agg xs, j => xs.getD j undef
  | v, _ => v
def strOf : Value → ByteArray
  | .string s => s
  | _ => ⟨#[]⟩
def crdOf (v : Value) : Crd := ⟨intOf (fldV v 0), strOf (fldV v 1), intOf (fldV v 2), intOf (fldV v 3)⟩
noncomputable def crdR (v : Value) : Option (DataW Unit × List MemPlace) := @ite _ (v = crdV (crdOf v)) (Classical.propDecidable _) (some (crdD (crdOf v), [])) none
theorem crdR_mk (x : Crd) : crdR (crdV x) = some (crdD x, []) := by
  have e : crdOf (crdV x) = x := rfl
  unfold crdR
  rw [e]
  exact if_pos rfl
theorem crdR_inv {v : Value} {x : Crd} {ps : List MemPlace} (h : crdR v = some (crdD x, ps)) : v = crdV x := by
  unfold crdR at h
  split at h
  · rename_i hv
    have h := Option.some.inj h
    simp only [Prod.mk.injEq, crdD, DataW.agg.injEq, List.cons.injEq, DataW.lit.injEq, Lit.int.injEq, Lit.string.injEq, true_and, and_true] at h
    obtain ⟨⟨h1, h2, h3, h4⟩, _⟩ := h
    have h5 : (crdOf v).k = x.k := ByteArray.ext (Array.toList_inj.1 h2)
    have e : crdOf v = x := by
      cases x
      cases hc : crdOf v
      rw [hc] at h1 h3 h4 h5
      simp only at h1 h3 h4 h5
      rw [h1, h3, h4, h5]
    rw [e] at hv
    exact hv
  · cases h
theorem Goes.ownsMap {Pv : Nat → Prop} {A B : World} {P : Program} {k : TypeId} {R : Value → Option (DataW Unit × List MemPlace)} {b n : Nat} {D : DataW Unit} (h : Goes Pv A B) (hm : A.ownsMap P k R b n D) (hp : ¬ Pv b) : B.ownsMap P k R b n D := by
  obtain ⟨es, clock, hb, r⟩ := hm
  exact ⟨es, clock, h.obj hb hp, r⟩
theorem set_map {W W' : World} {z : Nat} {v : Value} (h : W.cell? ⟨z + 1, 0, none⟩ = some v) (hg : W.grownBy W' (some z)) : W'.cell? ⟨z + 1, 0, none⟩ = some v := hg.cell h (fun e => by have := Option.some.inj e; simp at this)
structure ByI (w : World) (pre : List Crd) (Pv : Nat → Prop) (W : World) : Prop where
  c1 : W.cell? ⟨w.heap.size + 1, 0, none⟩ = some (.map (some w.heap.size))
  own : W.ownsMap Tryz.prog 3 crdR w.heap.size pre.length (byD pre)
  below : Below w.heap.size w W
  pv : ∀ i, Pv i → w.heap.size + 1 < i
theorem ByI.steady (w : World) : Steady (ByI w) := by
  rintro s Pv Pv' X Y ⟨h1, h2, h5, h6⟩ hg hm
  have n0 : ¬ Pv w.heap.size := fun h => by have := h6 _ h; omega
  have n1 : ¬ Pv (w.heap.size + 1) := fun h => by have := h6 _ h; omega
  have z := blt h1
  refine ⟨hg.cell h1 n1, hg.ownsMap h2 n0, hg.below h5 (fun i h => by have := h6 i h; omega), fun i hi => ?_⟩
  rcases hm i hi with h | ⟨h, _⟩
  · exact h6 i h
  · omega
def ByX (_ : Code) (_ : List Crd) (_ : Nat → Prop) (_ : World) : Prop := False
/-- What byId leaves. -/
def ByP (l : List Crd) (w : World) (y : Ending) (w' : World) : Prop := ∃ b, y = .returned (.map (some b)) ∧ w'.ownsMap Tryz.prog 3 crdR b l.length (byD l) ∧ Below w.heap.size w w'
set_option maxRecDepth 100000 in
set_option maxHeartbeats 4000000 in
theorem byId_c (a : Option Addr) (cap : Nat) (l : List Crd) (hs : l.length ≤ 100000) (hok : ∀ x ∈ l, 1 ≤ x.i ∧ x.i ≤ 1000000000) (w : World) (hA : CrdAt w.heap.size w a l) :
    Calls Tryz.prog 59 #[.slice a l.length cap] w (ByP l w) := by
  refine (callsIn_wide (n := 8)).1 ?_
  have HE := Lib.hid (fun W => each_c a l.length cap W)
  have HA := Lib.hid hA
  have HO := Lib.hid hok
  have hmm := @run_makeMap Tryz.prog
  clear hA hok
  refine callsIn_of_wp_marks Tryz.func59 rfl trivial ?_ rfl
  simp only [Tryz.ntmps59, List.size_toArray, List.length_cons, List.length_nil, Nat.reduceAdd, Nat.reduceSub, Array.replicate_succ, Array.replicate_zero, List.push_toArray, List.append_toArray, List.nil_append, List.cons_append]
  gi_wp2_with fail
  refine ⟨trivial, (callsIn_wide.2 (HE.out _)).mono ?_⟩
  rintro e w' ⟨rfl, rfl⟩
  clear HE hmm
  have hst : (((w.alloc (.map #[] 0)).alloc (.cells #[.map (some w.heap.size)] 88)).alloc (.cells #[.slice a l.length cap] 55)).cell? ⟨w.heap.size + 2, 0, none⟩ = some (.slice a l.length cap) := by
    have := (Boxed.new ((w.alloc (.map #[] 0)).alloc (.cells #[.map (some w.heap.size)] 88)) 55 (.slice a l.length cap)).cell
    rw [World.size_alloc, World.size_alloc] at this
    exact this
  have hm0 := World.ownsMap_made w Tryz.prog 3 crdR
  have hI : ByI w [] (fun i => i = w.heap.size + 2) (((w.alloc (.map #[] 0)).alloc (.cells #[.map (some w.heap.size)] 88)).alloc (.cells #[.slice a l.length cap] 55)) := ⟨by go_simp, (hm0.alloc _).alloc _, bal (bal (below_alloc w _) _) _, fun i h => by omega⟩
  have hsb : ((w.alloc (.map #[] 0)).alloc (.cells #[.map (some w.heap.size)] 88)).heap.size = w.heap.size + 2 := by simp
  simp only [hsb]
  clear hm0
  generalize (((w.alloc (.map #[] 0)).alloc (.cells #[.map (some w.heap.size)] 88)).alloc (.cells #[.slice a l.length cap] 55)) = Z at *
  have HBI := Lib.hid (values_it 7 (by omega) a cap l hs w.heap.size (w.heap.size + 2) Z hst)
  clear hsb
  gi_wp2_with fail
  refine wpIn_range_itersG (n := 8) (encs := fun x => #[crdV x]) (ps := #[8]) rfl (by omega) (gf := 89) (lb := #[.pointer (some ⟨w.heap.size + 2, 0, none⟩)]) rfl trivial (enters_of Tryz.func89 (by kernel_rfl) rfl)
    HBI.out (Below.refl _ _) (fun _ => rfl) (fun i h => by rw [h]; exact blt hst) (ByI w) (ByX) (fun s Pv W h => HA.out.below h.below) (ByI.steady w) ?steadyx hI ?round ?done ?stop
  case steadyx => intro c s Pv Pv' X Y h; exact h.elim
  case round =>
    clear HBI hI
    rintro K pre x Pv W hc hI2 hPl hll ⟨rec, hrec⟩
    simp only [crdV]
    gi_wp2
    refine ⟨(Mid.refl Pv W).alloc _, fun W2 hG hr2 => ?_⟩
    have hKW : K < W.heap.size := (Array.getElem?_eq_some_iff.1 hrec).1
    have x0 : (W.alloc (.cells #[.int .i64 x.i, .string x.k, .int .i64 x.f, .int .i64 x.t] 37)).cell? ⟨W.heap.size, 0, none⟩ = some (.int .i64 x.i) := by go_simp
    have x1 : (W.alloc (.cells #[.int .i64 x.i, .string x.k, .int .i64 x.f, .int .i64 x.t] 37)).cell? ⟨W.heap.size, 1, none⟩ = some (.string x.k) := by go_simp
    have x2 : (W.alloc (.cells #[.int .i64 x.i, .string x.k, .int .i64 x.f, .int .i64 x.t] 37)).cell? ⟨W.heap.size, 2, none⟩ = some (.int .i64 x.f) := by go_simp
    have x3 : (W.alloc (.cells #[.int .i64 x.i, .string x.k, .int .i64 x.f, .int .i64 x.t] 37)).cell? ⟨W.heap.size, 3, none⟩ = some (.int .i64 x.t) := by go_simp
    replace x0 := hG.cell x0 (fun h => by omega)
    replace x1 := hG.cell x1 (fun h => by omega)
    replace x2 := hG.cell x2 (fun h => by omega)
    replace x3 := hG.cell x3 (fun h => by omega)
    have hI3 := ByI.steady w _ _ _ _ _ (ByI.steady w _ _ _ _ _ hI2 (Goes.of_below (below_alloc W (.cells #[.int .i64 x.i, .string x.k, .int .i64 x.f, .int .i64 x.t] 37))) (More.same _ _ _)) (hG.mono (fun i h => h ▸ hPl)) (More.same _ _ _)
    have hx := mem_of_pre hc
    have hpl : pre.length < l.length := by have := hc.length_le; simp at this; omega
    clear hI2 hG hr2 hrec hll hc
    obtain ⟨q1, hown, hbw, hpv⟩ := hI3
    have bx := HO.out x hx
    have hwf : (Lit.int .i64 x.i).wf = true := WalkArith.wf_i64 (by omega)
    have HW := Lib.hid hwf
    have HS := Lib.hid (byD_snoc pre x)
    have HB := Lib.hid hbw
    have HP := Lib.hid hpv
    have z1 := blt q1
    clear hx bx hwf hbw hpv
    generalize W.heap.size = B at *
    gi_wp2_with (gi_at_mapUpdate; refine wpListIn_mapUpdate_own _ rfl _ _ _ 88 rfl 3 37 (Maps.int_keyed Tryz.underlying3) Tryz.underlying88 crdR w.heap.size pre.length _ rfl hown (by unfold maxLen; omega) _ _ _ rfl rfl (Maps.keyOf_int_mk Tryz.underlying3 HW.out) (crdD x) [] (crdR_mk x) ?_; intro w1 hown1 hgrow1; have q1' := ((set_map q1 hgrow1)); have HG1 := Lib.hid hgrow1; have HO1 := Lib.hid hown1; clear hown1 hgrow1)
    rw [← HS.out] at HO1
    have h1 : w.heap.size ≤ W2.heap.size := HB.out.size
    exact ⟨⟨q1', by rw [List.length_append]; exact HO1.out, HB.out.grown HG1.out h1 (fun j hj => by cases hj; exact Nat.le_refl _), HP.out⟩, Mid.of_grown HG1.out (fun r e => by cases e; intro h; have := HP.out _ h; omega)⟩
  case done =>
    rintro D xs Pv W hlD hpD rfl ⟨q1, hown, hbw, hpv⟩ hdef
    have HBW := Lib.hid hbw
    have HD := Lib.hid hdef
    have HO2 := Lib.hid hown
    have zD := blt hst
    clear hbw hdef hpv hown hI HBI hst
    gi_wp2
    refine ⟨by simp, .inl ⟨_, _, rfl, run_takeDeferred HD.out, ?_⟩⟩
    refine ⟨_, results_tmp rfl _ _ _, ?_⟩
    refine ⟨w.heap.size, rfl, ?_, HBW.out.grown (grownBy_putObj' _ D _) HBW.out.size (fun j hj => by cases hj; omega)⟩
    exact HO2.out.kept (grownBy_putObj' _ D _) (fun e => by cases e; omega)
  case stop =>
    rintro D c pre Pv W hlD hpD hSp h hdef
    exact h.elim
set_option maxRecDepth 100000 in
set_option maxHeartbeats 4000000 in
theorem rise_c (a : Option Addr) (cap : Nat) (l : List Crd) (hs : l.length ≤ 100000) (hok : ∀ x ∈ l, 1 ≤ x.i ∧ x.i ≤ 1000000000) (w : World) (hA : CrdAt w.heap.size w a l) :
    Calls Tryz.prog 40 #[.slice a l.length cap] w fun y w' => y = .returned (.bool (riseB l)) ∧ Below w.heap.size w w' := by
  have HS := Lib.hid (sorted_c a cap l hs hok w hA)
  have HA := Lib.hid hA
  have HY := Lib.hid (fun W h => byId_c a cap l hs hok W h)
  have HQ := Lib.hid (show riseB l = (sortB l && decide ((idsL l).Nodup)) from rfl)
  have HZ := Lib.hid (byD_size_eq l)
  clear hok hA
  cases hb : sortB l
  · rw [hb] at HS HQ
    have HR := Lib.hid (show riseB l = false by rw [HQ.out]; rfl)
    clear hb
    go_enter Tryz.func40, Tryz.ntmps40
    go_wp2_with fail
    refine HS.out.mono ?_
    rintro e w1 ⟨rfl, hb⟩
    have HB := Lib.hid hb
    clear hb
    go_wp2
    go_ret
    exact ⟨by rw [HR.out]; rfl, HB.out⟩
  · rw [hb] at HS HQ
    have HR := Lib.hid (show riseB l = decide ((Maps.size (byD l) : Int) = (l.length : Int)) by
      rw [HQ.out, Bool.true_and, decide_eq_decide]
      constructor
      · intro h; have := HZ.out.2 h; omega
      · intro h; exact HZ.out.1 (by omega))
    clear hb
    go_enter Tryz.func40, Tryz.ntmps40
    go_wp2_with fail
    refine HS.out.mono ?_
    rintro e w1 ⟨rfl, hb⟩
    have HB := Lib.hid hb
    clear hb
    go_wp2_with fail
    refine (HY.out _ (HA.out.on HB.out)).mono ?_
    rintro e w2 ⟨b, rfl, hown, hb⟩
    have HB2 := Lib.hid (btr HB.out hb)
    clear hb
    have hlen := hown.len Tryz.underlying88 3
    clear hown
    go_wp2
    go_ret
    exact ⟨by rw [HR.out]; rfl, HB2.out⟩
set_option maxRecDepth 100000 in
set_option maxHeartbeats 4000000 in
theorem cRight_c (a : Option Addr) (cap : Nat) (l : List Crd) (hs : l.length ≤ 100000) (w : World) (hA : CrdAt w.heap.size w a l) :
    Calls Tryz.prog 16 #[.slice a l.length cap] w fun y w' => y = .returned (.bool (rightB l)) ∧ Below w.heap.size w w' := by
  by_cases h4 : l.length ≤ 4
  · have h4' : (l.length : Int) ≤ 4 := by omega
    have hA1 := hA.on (below_alloc w (.cells #[.func (.func 37) #[] #[], .func (.func 38) #[] #[], .func (.func 39) #[] #[]] 66))
    have HL := Lib.hid (all_c a cap l hs w.heap.size _ hA1 (by go_simp) (by go_simp) (by go_simp))
    have HA := Lib.hid hA1
    have HQ := Lib.hid (show rightB l = (l.all credOK && riseB l) by unfold rightB; rw [decide_eq_true h4, Bool.true_and])
    clear hA hA1 h4
    cases hb : l.all credOK
    · rw [hb] at HL HQ
      have HR := Lib.hid (show rightB l = false by rw [HQ.out]; rfl)
      clear hb
      go_enter Tryz.func16, Tryz.ntmps16
      go_wp2_with fail
      refine HL.out.mono ?_
      rintro e w1 ⟨rfl, hb⟩
      have HB := Lib.hid (btr (below_alloc w _) hb)
      clear hb
      go_wp2
      go_ret
      exact ⟨by rw [HR.out]; rfl, HB.out⟩
    · have hids : ∀ x ∈ l, 1 ≤ x.i ∧ x.i ≤ 1000000000 := fun x hx => ok_id (List.all_eq_true.1 hb x hx)
      have HRI := Lib.hid (fun W h => rise_c a cap l hs hids W h)
      rw [hb] at HL HQ
      have HR := Lib.hid (show rightB l = riseB l by rw [HQ.out, Bool.true_and])
      clear hb hids
      generalize riseB l = r at *
      go_enter Tryz.func16, Tryz.ntmps16
      go_wp2_with fail
      refine HL.out.mono ?_
      rintro e w1 ⟨rfl, hb⟩
      have HA2 := Lib.hid (HA.out.on hb)
      have HB := Lib.hid (btr (below_alloc w _) hb)
      clear hb
      go_wp2_with fail
      refine (HRI.out _ HA2.out).mono ?_
      rintro e w2 ⟨rfl, hb⟩
      have HB2 := Lib.hid (btr HB.out hb)
      clear hb
      go_wp2
      go_ret
      exact ⟨by rw [HR.out]; rfl, HB2.out⟩
  · have h4' : ¬ (l.length : Int) ≤ 4 := by omega
    have HR := Lib.hid (show rightB l = false by unfold rightB; rw [decide_eq_false h4, Bool.false_and])
    clear h4 hA
    go_enter Tryz.func16, Tryz.ntmps16
    go_wp2
    go_ret
    exact ⟨by rw [HR.out]; rfl, Below.refl _ _⟩
end Go.Proofs.YtikpmkidfppknaaGreatDoor

/- A variable that holds a row of the call's own, one append further, inside of a range. -/
namespace Go.Proofs.YtikpmkidfppknaaGreatDoor
open Go.RowKit Go.Shelf

theorem row_lt {W : World} {z : Nat} {t : TypeId} {n k : Nat} {v : Value} {xs : List Value} (h : W.ownsRow z t n v k xs) {g : Nat} (hg : v.ownBlock = some g) : z ≤ g ∧ g < W.heap.size := h.lt g hg
theorem row_form {W : World} {z : Nat} {t : TypeId} {n k : Nat} {v : Value} {xs : List Value} (h : W.ownsRow z t n v k xs) : ∃ ao c, v = .slice ao k c := by
  rcases h.2 with ⟨rfl, rfl⟩ | ⟨g', cap, cur, rfl, _⟩
  · exact ⟨_, _, rfl⟩
  · exact ⟨_, _, rfl⟩
theorem Goes.boxedG {Pv : Nat → Prop} {A B : World} {b : Nat} {t : TypeId} {v : Value} (h : Goes Pv A B) (hb : Boxed A b t v) (hp : ¬ Pv b) : Boxed B b t v := h.obj hb hp
theorem More.notG {Pv Pv' : Nat → Prop} {A B : World} (hm : More Pv Pv' A B) {i : Nat} (h : ¬ Pv i) (hi : i < A.heap.size) : ¬ Pv' i := fun k => (hm i k).elim h (fun k => by omega)
/-- What an append to a row in a variable's box, and the box written, leave. -/
structure RowNext (Pv : Nat → Prop) (z B : Nat) (T E : TypeId) (sz : Nat) (w Y w4 : World) (v' : Value) (n : Nat) (xs : List Value) : Prop where
  box : Boxed (w4.setCell ⟨B, 0, none⟩ v') B T v'
  own : (w4.setCell ⟨B, 0, none⟩ v').ownsRow z E sz v' n xs
  below : Below z w (w4.setCell ⟨B, 0, none⟩ v')
  pg : ∀ g, v'.ownBlock = some g → ¬ Pv g
  pt : ∀ i, Pv i → i < (w4.setCell ⟨B, 0, none⟩ v').heap.size
  mid : Mid Pv Y (w4.setCell ⟨B, 0, none⟩ v')
  other : ∀ (b : Nat) (t : TypeId) (u : Value), Boxed Y b t u → t ≠ E → b ≠ B → Boxed (w4.setCell ⟨B, 0, none⟩ v') b t u
  maps : ∀ (b : Nat) es c, Y.heap[b]? = some (Obj.map es c) → (w4.setCell ⟨B, 0, none⟩ v').heap[b]? = some (Obj.map es c)
theorem row_next {Pv : Nat → Prop} {z B : Nat} {T E : TypeId} (hTE : T ≠ E) {sz n m : Nat} {w Y w4 : World} {v v' : Value} {xs ys : List Value} {o : Obj} (b1 : Boxed Y B T v) (ho : Y.ownsRow z E sz v n xs) (hb : Below z w Y) (hB : z ≤ B)
    (hg4 : (Y.alloc o).grownBy w4 v.ownBlock) (ho4 : w4.ownsRow z E sz v' (n + m) ys) (hat : v'.ownBlock = v.ownBlock ∨ v'.ownBlock = some (Y.alloc o).heap.size) (pB : ¬ Pv B) (pg : ∀ g, v.ownBlock = some g → ¬ Pv g) (pt : ∀ i, Pv i → i < Y.heap.size) :
    Boxed w4 B T v ∧ RowNext Pv z B T E sz w Y w4 v' (n + m) ys := by
  have hz : z ≤ Y.heap.size := by have := b1.lt; omega
  have n1 := (b1.alloc o).not_row hTE (ho.alloc o)
  have c1 := (b1.alloc o).kept hg4 n1
  have m1 := c1.not_row hTE ho4
  have hs4 : (Y.alloc o).heap.size ≤ w4.heap.size := hg4.size
  rw [World.size_alloc] at hs4
  have hss : (w4.setCell ⟨B, 0, none⟩ v').heap.size = w4.heap.size := World.size_setCell ..
  refine ⟨c1, c1.set _, ho4.kept (grownBy_setCell' w4 B _) (.inr m1.symm), ?_, ?_, ?_, ?_, ?_, ?_⟩
  · exact ((hb.alloc hz o).grown hg4 (by rw [World.size_alloc]; omega) (fun j hj => (row_lt ho hj).1)).setCell (p := ⟨B, 0, none⟩) hB _
  · intro g hg
    rcases hat with h | h
    · exact pg g (h.symm.trans hg)
    · rw [h] at hg
      cases hg
      intro k
      have := pt _ k
      rw [World.size_alloc] at this
      omega
  · intro i hi
    have := pt i hi
    omega
  · exact (((Mid.refl Pv Y).alloc o).trans (Mid.of_grown hg4 (fun r e => pg r e))).setCell _ pB
  · intro b t u hbx hte hne
    have n2 := (hbx.alloc o).not_row hte (ho.alloc o)
    exact ((hbx.alloc o).kept hg4 n2).other hne _
  · intro b es c hm
    have hbl : b < Y.heap.size := (Array.getElem?_eq_some_iff.1 hm).1
    have e1 : (Y.alloc o).heap[b]? = some (Obj.map es c) := (Below.heap_alloc Y o b hbl).trans hm
    have n2 : some b ≠ v.ownBlock := by
      intro e
      rcases ho.2 with ⟨rfl, _⟩ | ⟨g, cap, cur, rfl, _, hg, _⟩
      · cases e
      · cases e
        rw [hm] at hg
        cases hg
    have e2 : w4.heap[b]? = some (Obj.map es c) := (hg4.block b (Array.getElem?_eq_some_iff.1 e1).1 n2).trans e1
    have n3 : b ≠ B := by
      rintro rfl
      have : w4.heap[b]? = _ := c1
      rw [e2] at this
      cases this
    exact (Below.heap_setCell w4 ⟨B, 0, none⟩ v' b n3).trans e2
end Go.Proofs.YtikpmkidfppknaaGreatDoor

/- Credentials, changed. -/
namespace Go.Proofs.YtikpmkidfppknaaGreatDoor
open Go.RowKit Go.Shelf
attribute [local go_sem] Oper.semAt_some

/-- Those that stay, changed. -/
def chL (sF : Crd → Bool) (dF : Crd → Crd) (l : List Crd) : List Crd := (l.filter sF).map dF
theorem chL_yes (sF : Crd → Bool) (dF : Crd → Crd) (l : List Crd) (x : Crd) (h : sF x = true) : chL sF dF (l ++ [x]) = chL sF dF l ++ [dF x] := by simp [chL, List.filter_append, h]
theorem chL_no (sF : Crd → Bool) (dF : Crd → Crd) (l : List Crd) (x : Crd) (h : sF x = false) : chL sF dF (l ++ [x]) = chL sF dF l := by simp [chL, List.filter_append, h]
theorem chL_len (sF : Crd → Bool) (dF : Crd → Crd) (l : List Crd) : (chL sF dF l).length ≤ l.length := by rw [chL, List.length_map]; exact List.length_filter_le _ _
structure ChI (f : Nat) (rc cp : Array Value) (sF : Crd → Bool) (dF : Crd → Crd) (w : World) (pre : List Crd) (Pv : Nat → Prop) (W : World) : Prop where
  fn : Boxed W w.heap.size 60 (.func (.func f) rc cp)
  ex : ∃ v, Boxed W (w.heap.size + 1) 22 v ∧ W.ownsRow w.heap.size 37 4 v (chL sF dF pre).length (crdCs (chL sF dF pre)) ∧ ∀ g, v.ownBlock = some g → ¬ Pv g
  below : Below w.heap.size w W
  pv : ∀ i, Pv i → w.heap.size + 1 < i
  pt : ∀ i, Pv i → i < W.heap.size
theorem ChI.steady (f : Nat) (rc cp : Array Value) (sF : Crd → Bool) (dF : Crd → Crd) (w : World) : Steady (ChI f rc cp sF dF w) := by
  rintro s Pv Pv' X Y ⟨h1, ⟨v, h2, h3, h4⟩, h5, h6, h7⟩ hg hm
  have n0 : ¬ Pv w.heap.size := fun h => by have := h6 _ h; omega
  have n1 : ¬ Pv (w.heap.size + 1) := fun h => by have := h6 _ h; omega
  have z := h2.lt
  refine ⟨hg.boxedG h1 n0, ⟨v, hg.boxedG h2 n1, hg.ownsRow h3 h4, fun g hgg => hm.notG (h4 g hgg) (row_lt h3 hgg).2⟩, hg.below h5 (fun i h => by have := h6 i h; omega), fun i hi => ?_, fun i hi => ?_⟩
  · rcases hm i hi with h | ⟨h, _⟩
    · exact h6 i h
    · omega
  · rcases hm i hi with h | ⟨_, h⟩
    · have := h7 i h; have := hg.size; omega
    · exact h
def ChX (_ : Code) (_ : List Crd) (_ : Nat → Prop) (_ : World) : Prop := False
/-- What changed leaves. -/
def ChP (m : List Crd) (w : World) (y : Ending) (w' : World) : Prop := ∃ v, y = .returned v ∧ w'.ownsRow w.heap.size 37 4 v m.length (crdCs m) ∧ Below w.heap.size w w'
set_option maxRecDepth 100000 in
set_option maxHeartbeats 4000000 in
theorem changed_c (a : Option Addr) (cap : Nat) (l : List Crd) (hs : l.length ≤ 100000) (f : Nat) (rc cp : Array Value) (sF : Crd → Bool) (dF : Crd → Crd) (w : World) (hA : CrdAt w.heap.size w a l)
    (eg : ∀ args W, (callFunc f args).run Tryz.prog W = .ok (.enter f args) W)
    (HF : ∀ x ∈ l, ∀ W, Below w.heap.size w W → Calls Tryz.prog f (rc ++ #[.agg #[.int .i64 x.i, .string x.k, .int .i64 x.f, .int .i64 x.t]] ++ cp) W fun y w' => y = .returned (.tuple #[.agg #[.int .i64 (dF x).i, .string (dF x).k, .int .i64 (dF x).f, .int .i64 (dF x).t], .bool (sF x)]) ∧ Below W.heap.size W w') :
    Calls Tryz.prog 29 #[.slice a l.length cap, .func (.func f) rc cp] w (ChP (chL sF dF l) w) := by
  refine (callsIn_wide (n := 8)).1 ?_
  have HE := Lib.hid (fun W => each_c a l.length cap W)
  have HA := Lib.hid hA
  have HFF := Lib.hid HF
  clear hA HF
  obtain ⟨i0, hi, hz0, hz1, hz2⟩ := infoCrd
  refine callsIn_of_wp_marks Tryz.func29 rfl trivial ?_ rfl
  simp only [Tryz.ntmps29, List.size_toArray, List.length_cons, List.length_nil, Nat.reduceAdd, Nat.reduceSub, Array.replicate_succ, Array.replicate_zero, List.push_toArray, List.append_toArray, List.nil_append, List.cons_append]
  gi_wp2_with fail
  refine ⟨trivial, (callsIn_wide.2 (HE.out _)).mono ?_⟩
  rintro e w' ⟨rfl, rfl⟩
  clear HE
  have hst : (((w.alloc (.cells #[.func (.func f) rc cp] 60)).alloc (.cells #[.slice none 0 0] 22)).alloc (.cells #[.slice a l.length cap] 55)).cell? ⟨w.heap.size + 2, 0, none⟩ = some (.slice a l.length cap) := by
    have := (Boxed.new ((w.alloc (.cells #[.func (.func f) rc cp] 60)).alloc (.cells #[.slice none 0 0] 22)) 55 (.slice a l.length cap)).cell
    rw [World.size_alloc, World.size_alloc] at this
    exact this
  have hB1 : Boxed (((w.alloc (.cells #[.func (.func f) rc cp] 60)).alloc (.cells #[.slice none 0 0] 22)).alloc (.cells #[.slice a l.length cap] 55)) (w.heap.size + 1) 22 (.slice none 0 0) := by
    have := (Boxed.new (w.alloc (.cells #[.func (.func f) rc cp] 60)) 22 (.slice none 0 0)).alloc (.cells #[.slice a l.length cap] 55)
    rw [World.size_alloc] at this
    exact this
  have hI : ChI f rc cp sF dF w [] (fun i => i = w.heap.size + 2) (((w.alloc (.cells #[.func (.func f) rc cp] 60)).alloc (.cells #[.slice none 0 0] 22)).alloc (.cells #[.slice a l.length cap] 55)) := ⟨((Boxed.new w _ _).alloc _).alloc _, ⟨_, hB1, World.ownsRow_nil _ _ _ _, fun g h => by cases h⟩, bal (bal (below_alloc w _) _) _, fun i h => by omega, fun i h => by rw [h]; simp⟩
  have hsb : ((w.alloc (.cells #[.func (.func f) rc cp] 60)).alloc (.cells #[.slice none 0 0] 22)).heap.size = w.heap.size + 2 := by simp
  simp only [hsb]
  clear hB1
  generalize (((w.alloc (.cells #[.func (.func f) rc cp] 60)).alloc (.cells #[.slice none 0 0] 22)).alloc (.cells #[.slice a l.length cap] 55)) = Z at *
  have HBI := Lib.hid (values_it 7 (by omega) a cap l hs w.heap.size (w.heap.size + 2) Z hst)
  clear hsb
  gi_wp2_with fail
  refine wpIn_range_itersG (n := 8) (encs := fun x => #[crdV x]) (ps := #[11]) rfl (by omega) (gf := 89) (lb := #[.pointer (some ⟨w.heap.size + 2, 0, none⟩)]) rfl trivial (enters_of Tryz.func89 (by kernel_rfl) rfl)
    HBI.out (Below.refl _ _) (fun _ => rfl) (fun i h => by rw [h]; exact blt hst) (ChI f rc cp sF dF w) (ChX) (fun s Pv W h => HA.out.below h.below) (ChI.steady f rc cp sF dF w) ?steadyx hI ?round ?done ?stop
  case steadyx => intro c s Pv Pv' X Y h; exact h.elim
  case round =>
    clear HBI hI
    rintro K pre x Pv W hc hI2 hPl hll ⟨rec, hrec⟩
    simp only [crdV]
    gi_wp2
    refine ⟨(Mid.refl Pv W).alloc _, fun W2 hG hr2 => ?_⟩
    have hKW : K < W.heap.size := (Array.getElem?_eq_some_iff.1 hrec).1
    have x0 : (W.alloc (.cells #[.int .i64 x.i, .string x.k, .int .i64 x.f, .int .i64 x.t] 37)).cell? ⟨W.heap.size, 0, none⟩ = some (.int .i64 x.i) := by go_simp
    have x1 : (W.alloc (.cells #[.int .i64 x.i, .string x.k, .int .i64 x.f, .int .i64 x.t] 37)).cell? ⟨W.heap.size, 1, none⟩ = some (.string x.k) := by go_simp
    have x2 : (W.alloc (.cells #[.int .i64 x.i, .string x.k, .int .i64 x.f, .int .i64 x.t] 37)).cell? ⟨W.heap.size, 2, none⟩ = some (.int .i64 x.f) := by go_simp
    have x3 : (W.alloc (.cells #[.int .i64 x.i, .string x.k, .int .i64 x.f, .int .i64 x.t] 37)).cell? ⟨W.heap.size, 3, none⟩ = some (.int .i64 x.t) := by go_simp
    replace x0 := hG.cell x0 (fun h => by omega)
    replace x1 := hG.cell x1 (fun h => by omega)
    replace x2 := hG.cell x2 (fun h => by omega)
    replace x3 := hG.cell x3 (fun h => by omega)
    have hI3 := ChI.steady f rc cp sF dF w _ _ _ _ _ (ChI.steady f rc cp sF dF w _ _ _ _ _ hI2 (Goes.of_below (below_alloc W (.cells #[.int .i64 x.i, .string x.k, .int .i64 x.f, .int .i64 x.t] 37))) (More.same _ _ _)) (hG.mono (fun i h => h ▸ hPl)) (More.same _ _ _)
    have hx := mem_of_pre hc
    have hpl : pre.length < l.length := by have := hc.length_le; simp at this; omega
    clear hI2 hG hr2 hrec hll hc
    obtain ⟨qf, ⟨v, qo, hown, pg⟩, hbw, hpv, hpt⟩ := hI3
    have HX := Lib.hid (HFF.out x hx W2 hbw)
    have qf0 := qf.cell
    generalize W.heap.size = B at *
    have HB := Lib.hid hbw
    have hcl := chL_len sF dF pre
    cases hsx : sF x
    · rw [hsx] at HX
      have HC := Lib.hid (chL_no sF dF pre x hsx)
      have HI := Lib.hid (And.intro qf (And.intro qo (And.intro hown (And.intro pg (And.intro hpv hpt)))))
      clear hsx qf qo hown pg hbw hpv hpt hcl hx
      generalize dF x = y at HX
      gi_wp2_with fail
      refine ⟨trivial, ?_⟩
      refine (CallsIn.inRound K (callsIn_wide.2 HX.out)).mono ?_
      rintro e w1 ⟨rfl, hb⟩
      have HB1 := Lib.hid hb
      clear hb x0 x1 x2 x3 qf0
      gi_wp2
      obtain ⟨qf, qo, hown, pg, hpv, hpt⟩ := HI.out
      have hG1 : Goes Pv W2 (w1.alloc (.cells #[.int .i64 y.i, .string y.k, .int .i64 y.f, .int .i64 y.t] 37)) := Goes.of_below (bal HB1.out _)
      have hJ := ChI.steady f rc cp sF dF w pre Pv Pv W2 _ ⟨qf, ⟨v, qo, hown, pg⟩, HB.out, hpv, hpt⟩ hG1 (More.same _ _ _)
      refine ⟨⟨hJ.fn, ?_, hJ.below, hJ.pv, hJ.pt⟩, Mid.of_below (bal HB1.out _)⟩
      rw [HC.out]
      exact hJ.ex
    · rw [hsx] at HX
      have HC := Lib.hid (chL_yes sF dF pre x hsx)
      have HI := Lib.hid (And.intro qf (And.intro qo (And.intro hown (And.intro pg (And.intro hpv hpt)))))
      clear hsx qf qo hown pg hbw hpv hpt hx
      generalize dF x = y at *
      gi_wp2_with fail
      refine ⟨trivial, ?_⟩
      refine (CallsIn.inRound K (callsIn_wide.2 HX.out)).mono ?_
      rintro e w1 ⟨rfl, hb⟩
      have HB1 := Lib.hid hb
      clear hb x0 x1 x2 x3 qf0
      have hI4 := ChI.steady f rc cp sF dF w pre Pv Pv W2 w1 (by obtain ⟨qf, qo, hown, pg, hpv, hpt⟩ := HI.out; exact ⟨qf, ⟨v, qo, hown, pg⟩, HB.out, hpv, hpt⟩) (Goes.of_below HB1.out) (More.same _ _ _)
      obtain ⟨qf, ⟨v', qo, hown, pg⟩, hbw, hpv, hpt⟩ := hI4
      clear HI HX v
      obtain ⟨ao, co, rfl⟩ := row_form hown
      obtain ⟨xs, hxs⟩ : ∃ xs, crdCs (chL sF dF pre) = xs := ⟨_, rfl⟩
      obtain ⟨n, hn⟩ : ∃ n, (chL sF dF pre).length = n := ⟨_, rfl⟩
      rw [hxs, hn] at hown
      rw [hn] at qo pg hcl
      have qo1 := qo.cell
      have qf1 := qo.frozen
      have zo := qo.lt
      have HI := Lib.hid (And.intro qf (And.intro qo (And.intro hown (And.intro pg (And.intro hpv (And.intro hpt hbw))))))
      have hzw : w.heap.size ≤ w1.heap.size := by omega
      have HXS := Lib.hid (And.intro hxs hn)
      clear hxs hn qf qo pg hbw hpv hpt
      gi_wp2_with (gi_at_builtin; go_loud (refine wpListIn_append_own_at _ rfl _ _ 22 rfl w.heap.size 37 i0 (.agg #[.int .i64 0, .string ⟨#[]⟩, .int .i64 0, .int .i64 0]) 4 40 Tryz.underlying22 hi hz0 hz1 hz2 rfl (by decide) _ n xs rfl ((hown.alloc _).alloc _) ⟨w1.heap.size + 1, 0, none⟩ 1 1 [.int .i64 y.i, .string y.k, .int .i64 y.f, .int .i64 y.t] rfl rfl (World.news_of_block (cs := #[.int .i64 y.i, .string y.k, .int .i64 y.f, .int .i64 y.t]) (t := 37) (fr := (0, 0)) (by have h := World.alloc_heap_new (w1.alloc (.cells #[.int .i64 y.i, .string y.k, .int .i64 y.f, .int .i64 y.t] 37)) (.cells #[.int .i64 y.i, .string y.k, .int .i64 y.f, .int .i64 y.t] 37); rw [World.size_alloc] at h; exact h)) (by simp [Value.oneCell']) (by unfold maxLen; omega) (by omega) (by simp; omega) ?_; intro u w4 ho4 hg4 _ hat; obtain ⟨au, cu, rfl⟩ := row_form ho4); (have HR := Lib.hid (And.intro ho4 (And.intro hg4 hat)); clear ho4 hg4 hat; obtain ⟨qf, qo, hown2, pg, hpv, hpt, hbw⟩ := HI.out; obtain ⟨c1, hR⟩ := row_next (T := 22) (by decide) (qo.alloc (.cells #[.int .i64 y.i, .string y.k, .int .i64 y.f, .int .i64 y.t] 37)) (hown2.alloc _) (bal hbw _) (by omega) HR.out.2.1 HR.out.1 HR.out.2.2 (fun h => by have := hpv _ h; omega) pg (fun i h => by have := hpt i h; simp; omega); have HRN := Lib.hid hR; clear hR hown2 pg hpv hpt hbw qo qf; have cc1 := c1.cell; have cf1 := c1.frozen; clear c1))
      obtain ⟨qf, qo, hown2, pg, hpv, hpt, hbw⟩ := HI.out
      obtain ⟨rb, ro, rl, rg, rt, rm, rr, _⟩ := HRN.out
      refine ⟨⟨?_, ⟨_, rb, ?_, rg⟩, rl, hpv, rt⟩, ((Mid.of_below HB1.out).alloc _).trans rm⟩
      · exact rr _ _ _ (qf.alloc _) (by decide) (by omega)
      · rw [HC.out, List.length_append, crdCs_append, HXS.out.1, HXS.out.2]
        exact ro
  case done =>
    rintro D xs Pv W hlD hpD rfl ⟨qf, ⟨v, qo, hown, pg⟩, hbw, hpv, hpt⟩ hdef
    have HBW := Lib.hid hbw
    have HD := Lib.hid hdef
    have HO2 := Lib.hid hown
    have zD := blt hst
    have q1 := qo.cell
    have hDg : ∀ g, v.ownBlock = some g → g ≠ D := fun g h e => pg g h (e ▸ hpD)
    have HDG := Lib.hid hDg
    clear hbw hdef hpv hpt hown hI HBI hst qf qo pg hDg
    gi_wp2
    refine ⟨by simp, .inl ⟨_, _, rfl, run_takeDeferred HD.out, ?_⟩⟩
    refine ⟨_, results_tmp rfl _ _ _, ?_⟩
    refine ⟨v, rfl, ?_, HBW.out.grown (grownBy_putObj' _ D _) HBW.out.size (fun j hj => by cases hj; omega)⟩
    exact HO2.out.kept (grownBy_putObj' _ D _) (by
      cases hv : v.ownBlock with
      | none => exact .inl rfl
      | some g => exact .inr (fun e => HDG.out g hv (Option.some.inj e)))
  case stop =>
    rintro D c pre Pv W hlD hpD hSp h hdef
    exact h.elim
end Go.Proofs.YtikpmkidfppknaaGreatDoor

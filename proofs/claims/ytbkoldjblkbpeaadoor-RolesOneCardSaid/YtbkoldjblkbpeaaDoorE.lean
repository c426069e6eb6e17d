/- Verbs, May: their contracts. -/
import Derived.Test.YtbkoldjblkbpeaaDoorD
import Derived.Deep.AppendLies
namespace Go.Proofs.YtbkoldjblkbpeaaDoor
open Go.RowKit Go.Shelf
attribute [local go_sem] Oper.semAt_some

theorem info3 : (Tryd.prog.info? 3).map (fun i => (i.zero, i.size, i.bytes)) = some (some (.int .i64 0), 1, 8) := by kernel_rfl
def vCells (l : List (Fin 10)) : List Value := l.map fun x => .int .i64 ((x.val : Int) + 1)
theorem vCells_snoc (l : List (Fin 10)) (x : Fin 10) : vCells (l ++ [x]) = vCells l ++ [.int .i64 ((x.val : Int) + 1)] := by simp [vCells]
theorem vCells_len (l : List (Fin 10)) : (vCells l).length = l.length * 1 := by simp [vCells]
theorem grown_of_below {W W' : World} (h : Below W.heap.size W W') : W.grownBy W' none := ⟨h.os, h.tape, h.output, h.size, fun i hi _ => h.block i hi⟩
/-- v owns the verbs l. -/
def OwnV (base : Nat) (w : World) (v : Value) (l : List (Fin 10)) : Prop := w.ownsRow base 3 1 v l.length (vCells l)
theorem OwnV.on {base : Nat} {W W' : World} {v : Value} {l : List (Fin 10)} (h : OwnV base W v l) (hb : Below W.heap.size W W') : OwnV base W' v l := h.kept (grown_of_below hb) (by cases v.ownBlock <;> simp)
def vInts (l : List (Fin 10)) : List Int := l.map fun x => (x.val : Int) + 1
theorem OwnV.row {base : Nat} {W : World} {v : Value} {l : List (Fin 10)} (h : OwnV base W v l) : RowI W v (vInts l) := by
  rcases h.2 with ⟨rfl, hn⟩ | ⟨g, cap, cur, rfl, hb, hg, _⟩
  · exact .inl ⟨rfl, by rw [List.length_eq_zero_iff.1 hn]; rfl⟩
  · refine .inr ⟨g, cap, by simp [vInts], fun i hi => ?_⟩
    have hi' : i < l.length := by simpa [vInts] using hi
    have := World.ownsRow.cellAt h i (by omega)
    rw [this]
    simp [vCells, vInts, hi']

set_option maxRecDepth 100000 in
set_option maxHeartbeats 4000000 in
theorem verbs_in (r : Int) (w : World) :
    CallsIn Fence.wide 5 Tryd.prog 19 #[.int .i64 r] w fun x w' => ∃ v, x = .returned v ∧ OwnV w.heap.size w' v (mayL r) ∧ Below w.heap.size w w' := by
  obtain ⟨i0, hi, hz0, hz1, hz2⟩ := info_parts info3
  have h26 : Fence.wide.fn 26 := trivial
  have h28 : Fence.wide.fn 28 := trivial
  have h29 : Fence.wide.fn 29 := trivial
  have HE := Lib.hid (fun W => every_c W)
  have HA := Lib.hid (fun W => allowed_c r W)
  have HH := Lib.hid (fun x W => have_c r x W)
  have HT := Lib.hid (fun W => every_stops Fence.wide 4 trivial rfl (by omega) W)
  have bU : Below w.heap.size w ((w.alloc (.cells #[.slice none 0 0] 31)).alloc (.cells #[.int .i64 (maskR r)] 52)) := bal (below_alloc _ _) _
  have bO : Boxed ((w.alloc (.cells #[.slice none 0 0] 31)).alloc (.cells #[.int .i64 (maskR r)] 52)) w.heap.size 31 (.slice none 0 0) := (Boxed.new w 31 (.slice none 0 0)).alloc _
  have cM : Boxed ((w.alloc (.cells #[.slice none 0 0] 31)).alloc (.cells #[.int .i64 (maskR r)] 52)) (w.heap.size + 1) 52 (.int .i64 (maskR r)) := by
    have := Boxed.new (w.alloc (.cells #[.slice none 0 0] 31)) 52 (.int .i64 (maskR r))
    simpa using this
  have zU : ((w.alloc (.cells #[.slice none 0 0] 31)).alloc (.cells #[.int .i64 (maskR r)] 52)).heap.size = w.heap.size + 2 := by simp
  refine callsIn_of_wp_marks Tryd.func19 rfl trivial ?_ rfl
  simp only [Tryd.ntmps19, List.size_toArray, List.length_cons, List.length_nil, Nat.reduceAdd, Nat.reduceSub, Array.replicate_succ, Array.replicate_zero, List.push_toArray, List.append_toArray, List.nil_append, List.cons_append]
  gi_wp2_with (first | (gi_at_call 28; refine (callsIn_wide.2 (HA.out _)).mono ?_; rintro e w' ⟨rfl, rfl⟩) | (gi_at_call 26; refine (callsIn_wide.2 (HE.out _)).mono ?_; rintro e w' ⟨rfl, rfl⟩))
  rename_i K hK
  generalize hzz : w.heap.size = z at *
  generalize ((w.alloc (Obj.cells #[Value.slice none 0 0] 31)).alloc (Obj.cells #[Value.int .i64 (maskR r)] 52)) = V at *
  have HZ := Lib.hid zU
  have hfl := mayL_filter r
  have HM := Lib.hid hfl
  clear zU hfl
  generalize hmk : maskR r = m at *
  refine wpIn_rangeFunc_ownG rfl (by omega) (gf := 36) (lb := #[]) rfl trivial (enters_of Tryd.func36 (by kernel_rfl) rfl)
    (HT.out _) (fun _ _ => trivial) (fun _ _ _ _ _ _ _ _ => trivial) (Below.refl _ _) (fun _ => rfl)
    (fun D W => (∃ v, Boxed W z 31 v ∧ W.ownsRow z 3 1 v (D.filter (mayV r)).length (vCells (D.filter (mayV r))) ∧ (v = .slice none 0 0 ↔ D.filter (mayV r) = [])) ∧ Boxed W (z + 1) 52 (.int .i64 m) ∧ Below z w W)
    (fun _ _ _ => False)
    (fun D W W' row h hg hr => ⟨Own.from (holdsRow_own z z 31 3 1 (fun D : List (Fin 10) => (D.filter (mayV r)).length) (fun D => vCells (D.filter (mayV r))) (fun D v => v = .slice none 0 0 ↔ D.filter (mayV r) = [])) _ D W W' row h.1 hg hr, h.2.1.kept hg (fun e => by obtain ⟨_, o, ho, hc⟩ := hr _ e.symm; rw [show W.heap[z + 1]? = _ from h.2.1] at ho; cases ho; cases hc), h.2.2.grown hg (by have := bU.size; have := h.2.2.size; omega) (fun j hj => by have := (hr j hj).1; have := bU.size; omega)⟩)
    (fun _ _ _ _ _ hs _ _ => hs)
    ⟨⟨_, bO, World.ownsRow_nil _ _ _ _, by simp⟩, cM, bU⟩
    (fun x => { tmps := #[.int .i64 r, undef, .slice none 0 0, .pointer (some ⟨z, 0, none⟩), .pointer (some ⟨z + 1, 0, none⟩), .int .i64 ((x.val : Int) + 1), .int .i64 r, .int .i64 m, .func (.func 36) #[] #[], .int .i64 ((x.val : Int) + 1), undef, undef, undef, undef, undef, undef, undef, undef], defers := [] }) ?assign ?body ?done ?stop
  case assign =>
    intro l' x W K' hK'
    simp only [encV]
    gi_wp2
    exact hK'
  case body =>
    rintro l' pre x W ⟨⟨v, hv, hrow, hnil⟩, hm, hB⟩ hlt
    have hx := x.isLt
    have HHx := HH.out x
    rw [show (((x.val + 1 : Nat)) : Int) = (x.val : Int) + 1 by omega] at HHx
    have hc := hv.cell
    have hmc := hm.cell
    have hBz := hB.size
    have hlen : (pre.filter (mayV r)).length ≤ 10 := by have := List.length_filter_le (mayV r) pre; omega
    have hsn := @List.filter_append _ (mayV r) pre [x]
    clear HT hK HE HA bO cM hlt
    cases hy : mayV r x with
    | false =>
      rw [hy] at HHx
      have HF := Lib.hid (show (pre ++ [x]).filter (mayV r) = pre.filter (mayV r) by rw [hsn]; simp [hy])
      have HX := Lib.hid HHx
      clear hsn HHx
      gi_wp2_with (gi_at_call 29; refine (CallsIn.inRound l' (callsIn_wide.2 (HX.out _))).mono ?_; rintro e w1 ⟨rfl, rfl⟩)
      exact ⟨KeepsFrom.refl _ _, trivial, ⟨_, hv, by rw [HF.out]; exact hrow, by rw [HF.out]; exact hnil⟩, hm, hB⟩
    | true =>
      rw [hy] at HHx
      have HF := Lib.hid (show (pre ++ [x]).filter (mayV r) = pre.filter (mayV r) ++ [x] by rw [hsn]; simp [hy])
      have HX := Lib.hid HHx
      clear hsn HHx
      gi_wp2_with (first | (gi_at_call 29; refine (CallsIn.inRound l' (callsIn_wide.2 (HX.out _))).mono ?_; rintro e w1 ⟨rfl, rfl⟩) | (gi_at_builtin; refine wpListIn_append_own _ rfl _ _ 31 rfl z 3 i0 (.int .i64 0) 1 8 Tryd.underlying31 hi hz0 hz1 hz2 rfl (by decide) _ _ _ rfl (hrow.alloc _) ⟨W.heap.size, 0, none⟩ 1 1 [.int .i64 ((x.val : Int) + 1)] rfl rfl (World.news_of_block (cs := #[.int .i64 ((x.val : Int) + 1)]) (t := 3) (fr := (0, 0)) (heap_alloc_new W _)) (by simp [Value.oneCell']) (by unfold maxLen; omega) (by omega) (by simp; omega) ?_; intro v' w1 hown' hgrow _; obtain ⟨g', cap', rfl⟩ := ownsRow_succ hown'; obtain ⟨hv1, hv2, hr2, hk2, hb2⟩ := hv.appended (by decide) hrow (by omega) (Nat.le_refl _) hown' hgrow; have hc1 := hv1.cell; have hf1 := hv1.frozen))
      exact ⟨hk2.from _, trivial, ⟨_, hv2, by rw [HF.out, vCells_snoc, List.length_append]; exact hr2, by rw [HF.out]; simp⟩, ((hm.alloc _).kept hgrow (hm.not_row (by decide) hrow)).kept (grownBy_setCell' w1 z _) (by simp), hB.trans hb2⟩
  case done =>
    rintro D ys W hD rfl ⟨⟨v, hv, hrow, hnil⟩, hm, hB⟩ hdef
    have hc := hv.cell
    have HD := Lib.hid hdef
    refine hK _ _ ?_
    rw [HM.out] at hrow
    gi_wp2
    refine ⟨by simp, .inl ⟨_, _, rfl, run_takeDeferred HD.out, ?_⟩⟩
    have gP := grownBy_putObj' W D (Obj.deferred none)
    exact ⟨_, results_tmp rfl _ _ _, v, rfl, (show OwnV w.heap.size _ v (mayL r) by rw [hzz]; exact ownsRow_putObj hrow _ HD.out rfl), (hB.grown gP (by have := bU.size; have := hB.size; omega) (fun j hj => by cases hj; have := bU.size; omega)).mono (Nat.le_of_eq hzz)⟩
  case stop =>
    rintro D c pre W _ _ h _
    exact h.elim
theorem verbs_c (r : Int) (w : World) : Calls Tryd.prog 19 #[.int .i64 r] w fun x w' => ∃ v, x = .returned v ∧ OwnV w.heap.size w' v (mayL r) ∧ Below w.heap.size w w' := callsIn_wide.1 (verbs_in r w)
/-- May a role give a command? -/
def mayB (r v : Int) : Bool := decide (v ∈ vInts (mayL r))
theorem mayL_len (r : Int) : (mayL r).length ≤ 10 := by
  unfold mayL
  split
  · simp
  · split
    · simp
    · split <;> simp
set_option maxRecDepth 100000 in
theorem may_c (r v : Int) (w : World) : Calls Tryd.prog 16 #[.int .i64 r, .int .i64 v] w fun x w' => x = .returned (.bool (mayB r v)) ∧ Below w.heap.size w w' := by
  have HV := Lib.hid (fun W => verbs_c r W)
  have HC := Lib.hid (fun u W h => contains_c u (vInts (mayL r)) (by have := mayL_len r; simp [vInts]; omega) v W h)
  go_enter Tryd.func16, Tryd.ntmps16
  go_wp2_with fail
  refine (HV.out _).mono ?_
  rintro e w1 ⟨u, rfl, hO, hb⟩
  have HR := Lib.hid hO.row
  clear hO
  go_wp2_with fail
  refine (HC.out _ _ HR.out).mono ?_
  rintro e w2 ⟨rfl, rfl⟩
  go_wp2
  go_ret
  exact ⟨rfl, hb⟩
end Go.Proofs.YtbkoldjblkbpeaaDoor

/- Verb: its contract. -/
import Derived.Test.YtbkoldjblkbpeaaDoorC
namespace Go.Proofs.YtbkoldjblkbpeaaDoor
open Go.RowKit Go.Shelf
attribute [local go_sem] Oper.semAt_some

/-- A word's verb. -/
def vO (s : ByteArray) : Option (Fin 10) := allV.find? (fun x => decide (wordB x.val = s))
def vN (s : ByteArray) : Int := match vO s with
  | some x => (x.val : Int) + 1
  | none => 0
def vE (s : ByteArray) : Int := match vO s with
  | some _ => 0
  | none => 121
theorem vO_word : ∀ x : Fin 10, vO (wordB x.val) = some x := by decide +kernel
theorem vO_of {s : ByteArray} {x : Fin 10} (h : wordB x.val = s) : vO s = some x := by rw [← h]; exact vO_word x
theorem vO_not {s : ByteArray} (h : ∀ x ∈ allV, wordB x.val ≠ s) : vO s = none := by
  unfold vO
  rw [List.find?_eq_none]
  intro x hx
  simpa using h x hx
theorem v_some {s : ByteArray} {x : Fin 10} (h : vO s = some x) : vN s = (x.val : Int) + 1 ∧ vE s = 0 := by unfold vN vE; rw [h]; exact ⟨rfl, rfl⟩
theorem v_none {s : ByteArray} (h : vO s = none) : vN s = 0 ∧ vE s = 121 := by unfold vN vE; rw [h]; exact ⟨rfl, rfl⟩

theorem Wd.kept {W W' : World} {row : Option Nat} (h : Wd W) (g : W.grownBy W' row) (hr : ∀ r, row = some r → ∃ o : Obj, W.heap[r]? = some o ∧ o.isCells = false) : Wd W' := fun i hi => cell_kept (h i hi) g hr

/-- The three boxes of Verb. -/
structure VbAt (z : Nat) (s : ByteArray) (r e : Int) (W : World) : Prop where
  c0 : W.cell? ⟨z, 0, none⟩ = some (.string s)
  c1 : W.cell? ⟨z + 1, 0, none⟩ = some (.int .i64 r)
  c2 : W.cell? ⟨z + 2, 0, none⟩ = some (.int .i64 e)
  f1 : W.frozen? ⟨z + 1, 0, none⟩ = false
  f2 : W.frozen? ⟨z + 2, 0, none⟩ = false
theorem VbAt.kept {z : Nat} {s : ByteArray} {r e : Int} {W W' : World} {row : Option Nat} (h : VbAt z s r e W) (g : W.grownBy W' row) (hr : ∀ r, row = some r → ∃ o : Obj, W.heap[r]? = some o ∧ o.isCells = false) : VbAt z s r e W' :=
  ⟨cell_kept h.c0 g hr, cell_kept h.c1 g hr, cell_kept h.c2 g hr, (frozen_kept h.c1 g hr).trans h.f1, (frozen_kept h.c2 g hr).trans h.f2⟩
theorem VbAt.drew {z : Nat} {s : ByteArray} {r e : Int} {W : World} (h : VbAt z s r e W) : VbAt z s r e W.drew := ⟨h.c0, h.c1, h.c2, h.f1, h.f2⟩

theorem VbAt.puts {z : Nat} {s : ByteArray} {r e : Int} {W : World} (h : VbAt z s r e W) (r' e' : Int) : VbAt z s r' e' ((W.setCell ⟨z + 1, 0, none⟩ (.int .i64 r')).setCell ⟨z + 2, 0, none⟩ (.int .i64 e')) := by
  have c0 := h.c0
  have c1 := h.c1
  have c2 := h.c2
  have f1 := h.f1
  have f2 := h.f2
  exact ⟨by go_simp, by go_simp, by go_simp, by go_simp, by go_simp⟩
theorem ko_drew (W : World) : KeepsOthers W W.drew := ⟨Nat.le_refl _, fun _ _ hk _ => hk⟩
theorem toList_ne {t s : ByteArray} (h : ¬ t = s) : (t.toList == s.toList) = false := by
  rw [beq_eq_false_iff_ne, ByteArray.toList_eq, ByteArray.toList_eq]
  intro e
  exact h (ByteArray.ext (Array.toList_inj.1 e))

set_option maxRecDepth 100000 in
set_option maxHeartbeats 4000000 in
theorem verb_in (s : ByteArray) (w : World) (hW : Wd w) :
    CallsIn Fence.wide 5 Tryd.prog 12 #[.string s] w fun x w' => x = .returned (.tuple #[.int .i64 (vN s), .int .i64 (vE s)]) ∧ Below w.heap.size w w' := by
  have h26 : Fence.wide.fn 26 := trivial
  have HE := Lib.hid (fun W => every_c W)
  have HT := Lib.hid (fun W => every_stops Fence.wide 4 trivial rfl (by omega) W)
  have bU : Below w.heap.size w (((w.alloc (.cells #[.string s] 9)).alloc (.cells #[.int .i64 0] 3)).alloc (.cells #[.int .i64 0] 24)) := bal (bal (below_alloc _ _) _) _
  have hVb : VbAt w.heap.size s 0 0 (((w.alloc (.cells #[.string s] 9)).alloc (.cells #[.int .i64 0] 3)).alloc (.cells #[.int .i64 0] 24)) := ⟨by go_simp, by go_simp, by go_simp, by go_simp, by go_simp⟩
  have hWU := hW.on bU
  have zU : (((w.alloc (.cells #[.string s] 9)).alloc (.cells #[.int .i64 0] 3)).alloc (.cells #[.int .i64 0] 24)).heap.size = w.heap.size + 3 := by simp
  refine callsIn_of_wp_marks Tryd.func12 rfl trivial ?_ rfl
  simp only [Tryd.ntmps12, List.size_toArray, List.length_cons, List.length_nil, Nat.reduceAdd, Nat.reduceSub, Array.replicate_succ, Array.replicate_zero, List.push_toArray, List.append_toArray, List.nil_append, List.cons_append]
  gi_wp2_with (gi_at_call 26; refine (callsIn_wide.2 (HE.out _)).mono ?_; rintro e w' ⟨rfl, rfl⟩)
  rename_i K hK
  generalize hzz : w.heap.size = z at *
  generalize (((w.alloc (Obj.cells #[Value.string s] 9)).alloc (Obj.cells #[Value.int .i64 0] 3)).alloc (Obj.cells #[Value.int .i64 0] 24)) = V at *
  have HZ := Lib.hid zU
  clear zU
  refine wpIn_rangeFunc_ownG rfl (by omega) (gf := 36) (lb := #[]) rfl trivial (enters_of Tryd.func36 (by kernel_rfl) rfl)
    (HT.out _) (fun _ _ => trivial) (fun _ _ _ _ _ _ _ _ => trivial) (Below.refl _ _) (fun _ => rfl)
    (fun D W => (∀ x ∈ D, wordB x.val ≠ s) ∧ VbAt z s 0 0 W ∧ Wd W ∧ Below z w W)
    (fun c D W => c = .ret ∧ (∃ x : Fin 10, wordB x.val = s ∧ VbAt z s ((x.val : Int) + 1) 0 W) ∧ Below z w W)
    (fun D W W' row ⟨h1, h2, h3, h4⟩ hg hr => ⟨h1, h2.kept hg (fun r e => (hr r e).2), h3.kept hg (fun r e => (hr r e).2), h4.grown hg (by have := bU.size; have := h4.size; omega) (fun j hj => by have := (hr j hj).1; have := bU.size; omega)⟩)
    (fun c D W W' row ⟨h0, ⟨x, h1, h2⟩, h4⟩ hg hr => ⟨h0, ⟨x, h1, h2.kept hg (fun r e => (hr r e).2)⟩, h4.grown hg (by have := bU.size; have := h4.size; omega) (fun j hj => by have := (hr j hj).1; have := bU.size; omega)⟩)
    ⟨by simp, hVb, hWU, bU⟩
    (fun x => { tmps := #[.string s, .pointer (some ⟨z, 0, none⟩), .pointer (some ⟨z + 1, 0, none⟩), .pointer (some ⟨z + 1 + 1, 0, none⟩), .int .i64 ((x.val : Int) + 1), .func (.func 36) #[] #[], .int .i64 ((x.val : Int) + 1), undef, undef, undef, undef, undef, undef, undef], defers := [] }) ?assign ?body ?done ?stop
  case assign =>
    intro l' x W K' hK'
    simp only [encV]
    gi_wp2
    exact hK'
  case body =>
    rintro l' pre x W ⟨h1, h2, h3, h4⟩ hlt
    have hx := x.isLt
    have hc := h3 x.val hx
    have hx1 : (x.val : Int) < 10 := by omega
    have hx2 : (0 : Int) ≤ (x.val : Int) := by omega
    have hx3 : IntKind.i64.wrap (x.val : Int) = (x.val : Int) := IntWalk.i64_in _ (by omega)
    have hx4 : (x.val : Int) + 1 - 1 = (x.val : Int) := by omega
    have H1 := Lib.hid h1
    have H2 := Lib.hid h2
    have H3 := Lib.hid h3
    have H4 := Lib.hid h4
    have g0 := h2.c0
    have g1 := h2.c1
    have g2 := h2.c2
    have y1 := h2.f1
    have y2 := h2.f2
    clear h1 h2 h3 h4 hVb hWU HT hK hlt HE
    generalize ht : wordB x.val = t at *
    by_cases hts : t = s
    · subst hts
      gi_wp2
      gi_region_with (fail)
      all_goals
        gi_wp2
        exact ⟨((ko_drew W).trans ((KeepsOthers.setCell _ _ _).trans (KeepsOthers.setCell _ _ _))).from _, rfl, ⟨x, ht, H2.out.drew.puts _ 0⟩, ((below_drew H4.out).setCell (p := ⟨z + 1, 0, none⟩) (Nat.le_succ z) _).setCell (p := ⟨z + 2, 0, none⟩) (show z ≤ z + 2 by omega) _⟩
    · have hb := toList_ne hts
      gi_wp2
      gi_region_with (fail)
      all_goals
        gi_wp2
        exact ⟨(ko_drew W).from _, trivial, fun y hy => by (rcases List.mem_append.1 hy with e | e; exact H1.out y e; rw [List.mem_singleton.1 e, ht]; exact hts), H2.out.drew, H3.out, below_drew H4.out⟩
  case done =>
    rintro D ys W hD rfl ⟨h1, h2, h3, h4⟩ hdef
    have H2 := Lib.hid h2
    have H4 := Lib.hid h4
    have HV := Lib.hid (v_none (vO_not h1))
    have HD := Lib.hid hdef
    have g1 := h2.c1
    have g2 := h2.c2
    have y1 := h2.f1
    have y2 := h2.f2
    have hzD : z + 3 ≤ D := by have := HZ.out; omega
    clear h1 h2 h3 h4 hVb hWU HT HE
    refine hK _ _ ?_
    gi_wp2
    have hd' : ((W.setCell ⟨z + 1, 0, none⟩ (.int .i64 0)).setCell ⟨z + 1 + 1, 0, none⟩ (.int .i64 121)).heap[D]? = some (.deferred (some [])) :=
      (Below.heap_setCell _ ⟨z + 1 + 1, 0, none⟩ _ D (by simp; omega)).trans ((Below.heap_setCell _ ⟨z + 1, 0, none⟩ _ D (by simp; omega)).trans HD.out)
    refine ⟨by simp, .inl ⟨_, _, rfl, run_takeDeferred hd', ?_⟩⟩
    have gP := grownBy_putObj' ((W.setCell ⟨z + 1, 0, none⟩ (.int .i64 0)).setCell ⟨z + 1 + 1, 0, none⟩ (.int .i64 121)) D (Obj.deferred none)
    have hP : ∀ r, some D = some r → ∃ o : Obj, ((W.setCell ⟨z + 1, 0, none⟩ (.int .i64 0)).setCell ⟨z + 1 + 1, 0, none⟩ (.int .i64 121)).heap[r]? = some o ∧ o.isCells = false := fun r e => by cases e; exact ⟨_, hd', rfl⟩
    have N2 := (H2.out.puts 0 121).kept gP hP
    have e1 := N2.c1
    have e2 := N2.c2
    have b1 := (H4.out.setCell (p := ⟨z + 1, 0, none⟩) (Nat.le_succ z) (.int .i64 0)).setCell (p := ⟨z + 1 + 1, 0, none⟩) (show z ≤ z + 2 by omega) (.int .i64 121)
    exact ⟨.tuple #[.int .i64 0, .int .i64 121], by simp [results, Tryd.results12, go_sem, e1, e2], by rw [HV.out.1, HV.out.2], (b1.grown gP (by have := b1.size; omega) (fun j hj => by cases hj; omega)).mono (Nat.le_of_eq hzz)⟩
  case stop =>
    rintro D c pre W hD hpre ⟨rfl, ⟨x, hx, h2⟩, h4⟩ hdef
    have HV := Lib.hid (v_some (vO_of hx))
    have HD := Lib.hid hdef
    clear hVb hWU HT HE
    gi_wp2
    refine ⟨by simp, .inl ⟨_, _, rfl, run_takeDeferred HD.out, ?_⟩⟩
    have gP := grownBy_putObj' W D (Obj.deferred none)
    have hP : ∀ r, some D = some r → ∃ o : Obj, W.heap[r]? = some o ∧ o.isCells = false := fun r e => by cases e; exact ⟨_, HD.out, rfl⟩
    have N2 := h2.kept gP hP
    have e1 := N2.c1
    have e2 := N2.c2
    exact ⟨.tuple #[.int .i64 ((x.val : Int) + 1), .int .i64 0], by simp [results, Tryd.results12, go_sem, e1, e2], by rw [HV.out.1, HV.out.2], (h4.grown gP (by have := bU.size; have := h4.size; omega) (fun j hj => by cases hj; have := bU.size; omega)).mono (Nat.le_of_eq hzz)⟩
theorem verb_c (s : ByteArray) (w : World) (hW : Wd w) : Calls Tryd.prog 12 #[.string s] w fun x w' => x = .returned (.tuple #[.int .i64 (vN s), .int .i64 (vE s)]) ∧ Below w.heap.size w w' := callsIn_wide.1 (verb_in s w hW)
end Go.Proofs.YtbkoldjblkbpeaaDoor

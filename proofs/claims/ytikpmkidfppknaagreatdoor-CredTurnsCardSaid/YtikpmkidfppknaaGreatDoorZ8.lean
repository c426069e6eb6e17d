/- Ih, Bt, Ma, En -/
import Derived.Test.YtikpmkidfppknaaGreatDoorZ7
import Derived.Test.YtikpmkidfppknaaGreatDoorZ0
set_option linter.unusedVariables false
set_option linter.unusedSimpArgs false
/- Is one of a number among those that hold? -/
namespace Go.Proofs.YtikpmkidfppknaaGreatDoor
open Go.RowKit Go.Shelf
attribute [local go_sem] Oper.semAt_some

def hasB (l : List Crd) (id now : Int) : Bool := l.any fun x => decide (x.i = id) && holdB now x
theorem crd_zero (w : World) : (zeroValue 37).run Tryz.prog w = .ok (.agg #[.int .i64 0, .string ⟨#[]⟩, .int .i64 0, .int .i64 0]) w := by kernel_rfl
theorem last_mem {l : List Crd} {id : Int} (h : id ∈ idsL l) : ∃ x ∈ l, x.i = id ∧ lastL l id = some x := by
  obtain ⟨y, hy, rfl⟩ := List.mem_map.1 h
  have hf : y ∈ l.filter (fun x => decide (x.i = y.i)) := List.mem_filter.2 ⟨hy, decide_eq_true rfl⟩
  cases hl : (l.filter (fun x => decide (x.i = y.i))).getLast? with
  | none =>
    rw [List.getLast?_eq_none_iff] at hl
    rw [hl] at hf
    cases hf
  | some x =>
    have hx := List.mem_of_getLast? hl
    obtain ⟨h1, h2⟩ := List.mem_filter.1 hx
    exact ⟨x, h1, of_decide_eq_true h2, hl⟩
theorem last_none {l : List Crd} {id : Int} (h : ¬ id ∈ idsL l) : lastL l id = none := by
  unfold lastL
  rw [List.getLast?_eq_none_iff, List.filter_eq_nil_iff]
  intro x hx e
  exact h (List.mem_map.2 ⟨x, hx, of_decide_eq_true e⟩)
theorem byD_at2 (l : List Crd) (id : Int) : (byD l).atKey (.int .i64 id) (crdD ⟨0, ⟨#[]⟩, 0, 0⟩) = crdD ((lastL l id).getD ⟨0, ⟨#[]⟩, 0, 0⟩) := by
  rw [byD_at]
  cases lastL l id <;> rfl
theorem has_no {l : List Crd} {id now : Int} (h : ¬ id ∈ idsL l) : hasB l id now = false := by
  unfold hasB
  rw [List.any_eq_false]
  intro x hx
  have : ¬ x.i = id := fun e => h (List.mem_map.2 ⟨x, hx, e⟩)
  simp [this]
theorem uniq_id {l : List Crd} (h : (idsL l).Nodup) {x y : Crd} (hx : x ∈ l) (hy : y ∈ l) (e : x.i = y.i) : x = y := by
  obtain ⟨i, hi, rfl⟩ := List.getElem_of_mem hx
  obtain ⟨j, hj, rfl⟩ := List.getElem_of_mem hy
  have hp := List.pairwise_iff_getElem.1 h
  have hl : (idsL l).length = l.length := List.length_map _
  rcases Nat.lt_trichotomy i j with h1 | h1 | h1
  · exact absurd (by simpa [idsL] using e) (hp i j (by omega) (by omega) h1)
  · subst h1; rfl
  · exact absurd (by simpa [idsL] using e.symm) (hp j i (by omega) (by omega) h1)
theorem right_nodup {l : List Crd} (h : rightB l = true) : (idsL l).Nodup := by
  unfold rightB riseB at h
  simp only [Bool.and_eq_true, decide_eq_true_eq] at h
  exact h.2.2.2
theorem has_yes {l : List Crd} {id : Int} {x : Crd} (hr : rightB l = true) (h : id ∈ idsL l) (now : Int) (hx : ((lastL l id).getD ⟨0, ⟨#[]⟩, 0, 0⟩) = x) : x ∈ l ∧ x.i = id ∧ hasB l id now = holdB now x := by
  obtain ⟨y, hy, hyi, hyl⟩ := last_mem h
  rw [hyl] at hx
  obtain rfl : y = x := hx
  refine ⟨hy, hyi, ?_⟩
  unfold hasB
  cases hh : holdB now y
  · rw [List.any_eq_false]
    intro z hz e
    rw [Bool.and_eq_true] at e
    have : z = y := uniq_id (right_nodup hr) hz hy ((of_decide_eq_true e.1).trans hyi.symm)
    rw [this, hh] at e
    cases e.2
  · rw [List.any_eq_true]
    exact ⟨y, hy, by rw [hh, decide_eq_true hyi]; rfl⟩
theorem map_ne {W : World} {mb n b o : Nat} {D : DataW Unit} {v : Value} (h : W.ownsMap Tryz.prog 3 crdR mb n D) (hc : W.cell? ⟨b, o, none⟩ = some v) : mb ≠ b := by
  rintro rfl
  obtain ⟨es, clock, hb, _⟩ := h
  simp [World.cell?, hb] at hc
theorem look_crd {W : World} {mb n : Nat} {D : DataW Unit} {id : Int} {k : Bool} {x : Crd} (h : W.ownsMap Tryz.prog 3 crdR mb n D) (hw : (Lit.int .i64 id).wf = true) (hk : Maps.has D (.int .i64 id) = k) (ha : D.atKey (.int .i64 id) (crdD ⟨0, ⟨#[]⟩, 0, 0⟩) = crdD x) :
    (Instr.lookup 88 (.map (some mb)) (.int .i64 id) true).run Tryz.prog W = .ok (.tuple #[.agg #[.int .i64 x.i, .string x.k, .int .i64 x.f, .int .i64 x.t], .bool k]) W := by
  obtain ⟨v, ps, hrun, hv⟩ := h.look_ok (Maps.int_keyed Tryz.underlying3) Tryz.underlying88 (crd_zero _) (zd := crdD ⟨0, ⟨#[]⟩, 0, 0⟩) (zp := []) (crdR_mk ⟨0, ⟨#[]⟩, 0, 0⟩) (Maps.keyOf_int_mk Tryz.underlying3 hw)
  rw [hk] at hrun
  rw [ha] at hv
  rw [crdR_inv hv] at hrun
  exact hrun
set_option maxRecDepth 100000 in
set_option maxHeartbeats 4000000 in
theorem isHolding1_c (a : Option Addr) (cap : Nat) (l : List Crd) (hs : l.length ≤ 100000) (hr : rightB l = true) (now id : Int) (hid : -9223372036854775808 ≤ id ∧ id ≤ 9223372036854775807) (bs bi : Nat) (w : World) (s0 : w.cell? ⟨bs, 0, none⟩ = some (.slice a l.length cap)) (s1 : w.cell? ⟨bs, 1, none⟩ = some (.int .i64 now)) (s2 : w.cell? ⟨bi, 0, none⟩ = some (.int .i64 id)) (hA : CrdAt w.heap.size w a l) :
    Calls Tryz.prog 58 #[.pointer (some ⟨bs, 0, none⟩), .pointer (some ⟨bi, 0, none⟩)] w fun y w' => y = .returned (errV (hasB l id now) 2) ∧ Below w.heap.size w w' := by
  have hall : l.all credOK = true := by
    unfold rightB at hr
    simp only [Bool.and_eq_true] at hr
    exact hr.2.1
  have HBY := Lib.hid (fun W h => byId_c a cap l hs (fun x hx => ok_id (List.all_eq_true.1 hall x hx)) W h)
  have HA := Lib.hid hA
  have HW := Lib.hid (show (Lit.int .i64 id).wf = true from WalkArith.wf_i64 (by omega))
  have HAT := Lib.hid (byD_at2 l id)
  have HHS := Lib.hid (byD_has l id)
  have HU := Lib.hid (fun b W => unless_c W b 2)
  have z0 := blt s0
  have z2 := blt s2
  clear hA hall hid
  obtain ⟨x, hx⟩ : ∃ x, ((lastL l id).getD ⟨0, ⟨#[]⟩, 0, 0⟩) = x := ⟨_, rfl⟩
  rw [hx] at HAT
  obtain ⟨kn, hkn⟩ : ∃ b, decide (id ∈ idsL l) = b := ⟨_, rfl⟩
  rw [hkn] at HHS
  have hmm := @run_makeMap Tryz.prog
  go_enter Tryz.func58, Tryz.ntmps58
  go_wp2_with fail
  rename_i K hKK
  suffices hgo : ∀ (B mb : Nat) (W : World), Below w.heap.size w W → W.cell? ⟨B, 0, none⟩ = some (.int .i64 x.i) → W.cell? ⟨B, 1, none⟩ = some (.string x.k) → W.cell? ⟨B, 2, none⟩ = some (.int .i64 x.f) → W.cell? ⟨B, 3, none⟩ = some (.int .i64 x.t) → K { tmps := #[.pointer (some ⟨bs, 0, none⟩), .pointer (some ⟨bi, 0, none⟩), .nilIface, .pointer (some ⟨B, 0, none⟩), .bool kn, .tuple #[.agg #[.int .i64 x.i, .string x.k, .int .i64 x.f, .int .i64 x.t], .bool kn], .pointer (some ⟨bs, 0, none⟩), .slice a l.length cap, .map (some mb), .int .i64 id, .tuple #[.agg #[.int .i64 x.i, .string x.k, .int .i64 x.f, .int .i64 x.t], .bool kn], .agg #[.int .i64 x.i, .string x.k, .int .i64 x.f, .int .i64 x.t], .bool kn, undef, undef, undef, undef, undef, undef, undef, undef, undef, undef, undef], defers := [] } W by
    have u0 : Below w.heap.size w w := Below.refl _ w
    have MK := Lib.hid (show ∀ w', Below w.heap.size w w' → w'.cell? ⟨bs, 0, none⟩ = some (.slice a l.length cap) ∧ w'.cell? ⟨bs, 1, none⟩ = some (.int .i64 now) ∧ w'.cell? ⟨bi, 0, none⟩ = some (.int .i64 id) ∧ Below w.heap.size w w' from fun w' h => ⟨(h.cell (blt s0)).trans s0, (h.cell (blt s1)).trans s1, (h.cell (blt s2)).trans s2, h⟩)
    refine wp_region_held_drew (S := (fun w' => w'.cell? ⟨bs, 0, none⟩ = some (.slice a l.length cap) ∧ w'.cell? ⟨bs, 1, none⟩ = some (.int .i64 now) ∧ w'.cell? ⟨bi, 0, none⟩ = some (.int .i64 id) ∧ Below w.heap.size w w')) (by kernel_rfl) ?_ (fun hHeld => ?_)
    · (first | with_reducible assumption | exact MK.out _ (by with_reducible assumption) | exact MK.out _ (below_drew (by with_reducible assumption)))
    refine takeH (i := 0) (some 6) (v := ?_) rfl rfl (by kernel_rfl) (by kernel_rfl) (by kernel_rfl) (fun _ _ _ h => h) (Or.inl ⟨by rfl, ?hyA0⟩) hHeld ?restA0
    case hyA0 => (intro w hSw; (try dsimp only at hSw); go_simp; (try with_reducible rfl))
    try simp only [Act.put, List.setIfInBounds_toArray, List.set_cons_zero, List.set_cons_succ]
    refine takeH (i := 1) (some 7) (v := ?_) rfl rfl (by kernel_rfl) (by kernel_rfl) (by kernel_rfl) (fun _ _ _ h => h) (Or.inl ⟨by rfl, ?hyA1⟩) hHeld ?restA1
    case hyA1 => (intro w hSw; (try dsimp only at hSw); go_simp; (try with_reducible rfl))
    try simp only [Act.put, List.setIfInBounds_toArray, List.set_cons_zero, List.set_cons_succ]
    refine takeH (i := 3) (some 9) (v := ?_) rfl rfl (by kernel_rfl) (by kernel_rfl) (by kernel_rfl) (fun _ _ _ h => h) (Or.inl ⟨by rfl, ?hyA3⟩) hHeld ?restA3
    case hyA3 => (intro w hSw; (try dsimp only at hSw); go_simp; (try with_reducible rfl))
    try simp only [Act.put, List.setIfInBounds_toArray, List.set_cons_zero, List.set_cons_succ]
    refine wpAnyH_ready (rs := [2, 8]) (by kernel_rfl) (by simp) ?_
    refine AllReadyH.cons rfl (fun K2 hK => ?A) (AllReadyH.cons rfl (fun K2 hK => ?B) AllReadyH.nil)
    case A =>
      go_simp
      (with_reducible refine (HBY.out _ (HA.out.on hHeld.2.2.2)).mono ?_); rintro e wn ⟨mb, rfl, hown, pB⟩; have sB := btr hHeld.2.2.2 pB; clear pB hHeld
      refine hK.out _ _ ?_ (fun hHeld => ?_)
      · (first | with_reducible assumption | exact MK.out _ (by with_reducible assumption) | exact MK.out _ (below_drew (by with_reducible assumption)))
      clear hK K2
      try simp only [Act.put, List.setIfInBounds_toArray, List.set_cons_zero, List.set_cons_succ]
      refine wpAnyH_narrow (S2 := (fun w' => w'.cell? ⟨bs, 0, none⟩ = some (.slice a l.length cap) ∧ w'.cell? ⟨bs, 1, none⟩ = some (.int .i64 now) ∧ w'.cell? ⟨bi, 0, none⟩ = some (.int .i64 id) ∧ Below w.heap.size w w' ∧ w'.ownsMap Tryz.prog 3 crdR mb l.length (byD l))) (fun w h => ⟨h.1, h.2.1, h.2.2.1, h.2.2.2.1⟩) _ _ _ _ ?_
      have MK2 := Lib.hid (show ∀ w', Below w.heap.size w w' → w'.ownsMap Tryz.prog 3 crdR mb l.length (byD l) → w'.cell? ⟨bs, 0, none⟩ = some (.slice a l.length cap) ∧ w'.cell? ⟨bs, 1, none⟩ = some (.int .i64 now) ∧ w'.cell? ⟨bi, 0, none⟩ = some (.int .i64 id) ∧ Below w.heap.size w w' ∧ w'.ownsMap Tryz.prog 3 crdR mb l.length (byD l) from fun w' h k => ⟨(h.cell (blt s0)).trans s0, (h.cell (blt s1)).trans s1, (h.cell (blt s2)).trans s2, h, k⟩)
      have HLK := fun (w' : World) (h : w'.ownsMap Tryz.prog 3 crdR mb l.length (byD l)) => look_crd h HW.out HHS.out HAT.out
      replace hHeld := MK2.out _ sB hown
      clear sB
      refine takeH (i := 4) (some 10) (v := ?_) rfl rfl (by kernel_rfl) (by kernel_rfl) (by kernel_rfl) (fun _ _ _ h => h) (Or.inl ⟨by rfl, ?hyB4⟩) hHeld ?restB4
      case hyB4 => (intro w hSw; (try dsimp only at hSw); go_simp; (try with_reducible rfl))
      try simp only [Act.put, List.setIfInBounds_toArray, List.set_cons_zero, List.set_cons_succ]
      refine takeH (i := 5) (some 5) (v := ?_) rfl rfl (by kernel_rfl) (by kernel_rfl) (by kernel_rfl) (fun _ _ _ h => h) (Or.inl ⟨by rfl, ?hyB5⟩) hHeld ?restB5
      case hyB5 => (intro w hSw; (try dsimp only at hSw); go_simp; (try with_reducible rfl))
      try simp only [Act.put, List.setIfInBounds_toArray, List.set_cons_zero, List.set_cons_succ]
      refine takeH (i := 6) (some 11) (v := ?_) rfl rfl (by kernel_rfl) (by kernel_rfl) (by kernel_rfl) (fun _ _ _ h => h) (Or.inl ⟨by rfl, ?hyB6⟩) hHeld ?restB6
      case hyB6 => (intro w hSw; (try dsimp only at hSw); go_simp; (try with_reducible rfl))
      try simp only [Act.put, List.setIfInBounds_toArray, List.set_cons_zero, List.set_cons_succ]
      refine takeH (i := 7) (some 12) (v := ?_) rfl rfl (by kernel_rfl) (by kernel_rfl) (by kernel_rfl) (fun _ _ _ h => h) (Or.inl ⟨by rfl, ?hyB7⟩) hHeld ?restB7
      case hyB7 => (intro w hSw; (try dsimp only at hSw); go_simp; (try with_reducible rfl))
      try simp only [Act.put, List.setIfInBounds_toArray, List.set_cons_zero, List.set_cons_succ]
      have hS := Lib.hid hHeld
      refine wpAnyH_ready (rs := [8]) (by kernel_rfl) (by simp) ?_
      refine AllReadyH.cons rfl (fun K hK => ?_) AllReadyH.nil
      go_simp
      refine hK.out _ _ ?_ (fun hHeld => ?_)
      · exact MK2.out _ (bal hS.out.2.2.2.1 _) (hS.out.2.2.2.2.alloc _)
      clear hK K
      try simp only [Act.put, List.setIfInBounds_toArray, List.set_cons_zero, List.set_cons_succ]
      refine wpAnyH_ready (rs := [9]) (by kernel_rfl) (by simp) ?_
      refine AllReadyH.cons rfl (fun K hK => ?_) AllReadyH.nil
      go_simp
      refine hK.out _ _ ?_ (fun hHeld => ?_)
      · exact MK2.out _ (bal hS.out.2.2.2.1 _) (hS.out.2.2.2.2.alloc _)
      clear hK K
      try simp only [Act.put, List.setIfInBounds_toArray, List.set_cons_zero, List.set_cons_succ]
      refine takeH (i := 10) (some 4) (v := ?_) rfl rfl (by kernel_rfl) (by kernel_rfl) (by kernel_rfl) (fun _ _ _ h => h) (Or.inl ⟨by rfl, ?hyB10⟩) hHeld ?restB10
      case hyB10 => (intro w hSw; (try dsimp only at hSw); go_simp; (try with_reducible rfl))
      try simp only [Act.put, List.setIfInBounds_toArray, List.set_cons_zero, List.set_cons_succ]
      refine wpAnyH_done (by kernel_rfl) ?_ _
      exact hgo wn.heap.size mb _ hHeld.2.2.2.1 (by go_simp) (by go_simp) (by go_simp) (by go_simp)
    case B =>
      go_simp
      refine hK.out _ _ ?_ (fun hHeld => ?_)
      · exact MK.out _ (below_drew (bal u0 _))
      clear hK K2
      try simp only [Act.put, List.setIfInBounds_toArray, List.set_cons_zero, List.set_cons_succ]
      have y0 : (w.alloc (.cells #[.int .i64 0, .string ⟨#[]⟩, .int .i64 0, .int .i64 0] 37)).drew.cell? ⟨w.heap.size, 0, none⟩ = some (.int .i64 0) := by go_simp
      have y1 : (w.alloc (.cells #[.int .i64 0, .string ⟨#[]⟩, .int .i64 0, .int .i64 0] 37)).drew.cell? ⟨w.heap.size, 1, none⟩ = some (.string ⟨#[]⟩) := by go_simp
      have y2 : (w.alloc (.cells #[.int .i64 0, .string ⟨#[]⟩, .int .i64 0, .int .i64 0] 37)).drew.cell? ⟨w.heap.size, 2, none⟩ = some (.int .i64 0) := by go_simp
      have y3 : (w.alloc (.cells #[.int .i64 0, .string ⟨#[]⟩, .int .i64 0, .int .i64 0] 37)).drew.cell? ⟨w.heap.size, 3, none⟩ = some (.int .i64 0) := by go_simp
      have f0 : (w.alloc (.cells #[.int .i64 0, .string ⟨#[]⟩, .int .i64 0, .int .i64 0] 37)).drew.frozen? ⟨w.heap.size, 0, none⟩ = false := by go_simp
      have f1 : (w.alloc (.cells #[.int .i64 0, .string ⟨#[]⟩, .int .i64 0, .int .i64 0] 37)).drew.frozen? ⟨w.heap.size, 1, none⟩ = false := by go_simp
      have f2 : (w.alloc (.cells #[.int .i64 0, .string ⟨#[]⟩, .int .i64 0, .int .i64 0] 37)).drew.frozen? ⟨w.heap.size, 2, none⟩ = false := by go_simp
      have f3 : (w.alloc (.cells #[.int .i64 0, .string ⟨#[]⟩, .int .i64 0, .int .i64 0] 37)).drew.frozen? ⟨w.heap.size, 3, none⟩ = false := by go_simp
      refine wpAnyH_ready (rs := [2]) (by kernel_rfl) (by simp) ?_
      refine AllReadyH.cons rfl (fun K2 hK => ?_) AllReadyH.nil
      go_simp
      (with_reducible refine (HBY.out _ (HA.out.on hHeld.2.2.2)).mono ?_); rintro e wn ⟨mb, rfl, hown, pB⟩; have sB := btr hHeld.2.2.2 pB; clear hHeld
      replace f0 := (pB.frozen (blt y0)).trans f0
      replace f1 := (pB.frozen (blt y1)).trans f1
      replace f2 := (pB.frozen (blt y2)).trans f2
      replace f3 := (pB.frozen (blt y3)).trans f3
      replace y0 := (pB.cell (blt y0)).trans y0
      replace y1 := (pB.cell (blt y1)).trans y1
      replace y2 := (pB.cell (blt y2)).trans y2
      replace y3 := (pB.cell (blt y3)).trans y3
      clear pB
      refine hK.out _ _ ?_ (fun hHeld => ?_)
      · (first | with_reducible assumption | exact MK.out _ (by with_reducible assumption) | exact MK.out _ (below_drew (by with_reducible assumption)))
      clear hK K2
      try simp only [Act.put, List.setIfInBounds_toArray, List.set_cons_zero, List.set_cons_succ]
      refine wpAnyH_narrow (S2 := (fun w' => w'.cell? ⟨bs, 0, none⟩ = some (.slice a l.length cap) ∧ w'.cell? ⟨bs, 1, none⟩ = some (.int .i64 now) ∧ w'.cell? ⟨bi, 0, none⟩ = some (.int .i64 id) ∧ Below w.heap.size w w' ∧ w'.ownsMap Tryz.prog 3 crdR mb l.length (byD l))) (fun w h => ⟨h.1, h.2.1, h.2.2.1, h.2.2.2.1⟩) _ _ _ _ ?_
      have MK2 := Lib.hid (show ∀ w', Below w.heap.size w w' → w'.ownsMap Tryz.prog 3 crdR mb l.length (byD l) → w'.cell? ⟨bs, 0, none⟩ = some (.slice a l.length cap) ∧ w'.cell? ⟨bs, 1, none⟩ = some (.int .i64 now) ∧ w'.cell? ⟨bi, 0, none⟩ = some (.int .i64 id) ∧ Below w.heap.size w w' ∧ w'.ownsMap Tryz.prog 3 crdR mb l.length (byD l) from fun w' h k => ⟨(h.cell (blt s0)).trans s0, (h.cell (blt s1)).trans s1, (h.cell (blt s2)).trans s2, h, k⟩)
      have HLK := fun (w' : World) (h : w'.ownsMap Tryz.prog 3 crdR mb l.length (byD l)) => look_crd h HW.out HHS.out HAT.out
      replace hHeld := MK2.out _ sB hown
      clear sB
      refine takeH (i := 4) (some 10) (v := ?_) rfl rfl (by kernel_rfl) (by kernel_rfl) (by kernel_rfl) (fun _ _ _ h => h) (Or.inl ⟨by rfl, ?hyC4⟩) hHeld ?restC4
      case hyC4 => (intro w hSw; (try dsimp only at hSw); go_simp; (try with_reducible rfl))
      try simp only [Act.put, List.setIfInBounds_toArray, List.set_cons_zero, List.set_cons_succ]
      refine takeH (i := 5) (some 5) (v := ?_) rfl rfl (by kernel_rfl) (by kernel_rfl) (by kernel_rfl) (fun _ _ _ h => h) (Or.inl ⟨by rfl, ?hyC5⟩) hHeld ?restC5
      case hyC5 => (intro w hSw; (try dsimp only at hSw); go_simp; (try with_reducible rfl))
      try simp only [Act.put, List.setIfInBounds_toArray, List.set_cons_zero, List.set_cons_succ]
      refine takeH (i := 6) (some 11) (v := ?_) rfl rfl (by kernel_rfl) (by kernel_rfl) (by kernel_rfl) (fun _ _ _ h => h) (Or.inl ⟨by rfl, ?hyC6⟩) hHeld ?restC6
      case hyC6 => (intro w hSw; (try dsimp only at hSw); go_simp; (try with_reducible rfl))
      try simp only [Act.put, List.setIfInBounds_toArray, List.set_cons_zero, List.set_cons_succ]
      refine takeH (i := 7) (some 12) (v := ?_) rfl rfl (by kernel_rfl) (by kernel_rfl) (by kernel_rfl) (fun _ _ _ h => h) (Or.inl ⟨by rfl, ?hyC7⟩) hHeld ?restC7
      case hyC7 => (intro w hSw; (try dsimp only at hSw); go_simp; (try with_reducible rfl))
      try simp only [Act.put, List.setIfInBounds_toArray, List.set_cons_zero, List.set_cons_succ]
      have hS := Lib.hid hHeld
      have hmb := map_ne hown y0
      refine wpAnyH_ready (rs := [9]) (by kernel_rfl) (by simp) ?_
      refine AllReadyH.cons rfl (fun K hK => ?_) AllReadyH.nil
      go_simp
      refine hK.out _ _ ?_ (fun hHeld => ?_)
      · exact MK2.out _ ((((((((hS.out.2.2.2.1).setCell (p := ⟨w.heap.size, 0, none⟩) (Nat.le_refl _) (.int .i64 x.i))).setCell (p := ⟨w.heap.size, 1, none⟩) (Nat.le_refl _) (.string x.k))).setCell (p := ⟨w.heap.size, 2, none⟩) (Nat.le_refl _) (.int .i64 x.f))).setCell (p := ⟨w.heap.size, 3, none⟩) (Nat.le_refl _) (.int .i64 x.t)) (((( hS.out.2.2.2.2.setCell hmb _).setCell hmb _).setCell hmb _).setCell hmb _)
      clear hK K
      try simp only [Act.put, List.setIfInBounds_toArray, List.set_cons_zero, List.set_cons_succ]
      refine takeH (i := 10) (some 4) (v := ?_) rfl rfl (by kernel_rfl) (by kernel_rfl) (by kernel_rfl) (fun _ _ _ h => h) (Or.inl ⟨by rfl, ?hyC10⟩) hHeld ?restC10
      case hyC10 => (intro w hSw; (try dsimp only at hSw); go_simp; (try with_reducible rfl))
      try simp only [Act.put, List.setIfInBounds_toArray, List.set_cons_zero, List.set_cons_succ]
      refine wpAnyH_done (by kernel_rfl) ?_ _
      exact hgo w.heap.size mb _ hHeld.2.2.2.1 (by go_simp) (by go_simp) (by go_simp) (by go_simp)
  intro B mb W hB c0 c1 c2 c3
  refine hKK _ _ ?_
  have t0 := (hB.cell (blt s0)).trans s0
  have t1 := (hB.cell (blt s1)).trans s1
  have HB := Lib.hid hB
  have HAW := Lib.hid (HA.out.on hB)
  clear hB s0 s1 s2 hKK z0 z2
  cases kn
  · have HR := Lib.hid (has_no (now := now) (of_decide_eq_false hkn))
    clear hkn hx HHS HAT
    go_wp2_with fail
    have u0 : Below W.heap.size W W := Below.refl _ W
    have MK := Lib.hid (show ∀ w', Below W.heap.size W w' → w'.cell? ⟨bs, 0, none⟩ = some (.slice a l.length cap) ∧ w'.cell? ⟨bs, 1, none⟩ = some (.int .i64 now) ∧ w'.cell? ⟨B, 0, none⟩ = some (.int .i64 x.i) ∧ w'.cell? ⟨B, 1, none⟩ = some (.string x.k) ∧ w'.cell? ⟨B, 2, none⟩ = some (.int .i64 x.f) ∧ w'.cell? ⟨B, 3, none⟩ = some (.int .i64 x.t) ∧ Below W.heap.size W w' from fun w' h => ⟨(h.cell (blt t0)).trans t0, (h.cell (blt t1)).trans t1, (h.cell (blt c0)).trans c0, (h.cell (blt c1)).trans c1, (h.cell (blt c2)).trans c2, (h.cell (blt c3)).trans c3, h⟩)
    refine wp_region_held_drew (S := (fun w' => w'.cell? ⟨bs, 0, none⟩ = some (.slice a l.length cap) ∧ w'.cell? ⟨bs, 1, none⟩ = some (.int .i64 now) ∧ w'.cell? ⟨B, 0, none⟩ = some (.int .i64 x.i) ∧ w'.cell? ⟨B, 1, none⟩ = some (.string x.k) ∧ w'.cell? ⟨B, 2, none⟩ = some (.int .i64 x.f) ∧ w'.cell? ⟨B, 3, none⟩ = some (.int .i64 x.t) ∧ Below W.heap.size W w')) (by kernel_rfl) ?_ (fun hHeld => ?_)
    · (first | with_reducible assumption | exact MK.out _ (by with_reducible assumption) | exact MK.out _ (below_drew (by with_reducible assumption)))
    refine takeH (i := 0) (some 13) (v := ?_) rfl rfl (by kernel_rfl) (by kernel_rfl) (by kernel_rfl) (fun _ _ _ h => h) (Or.inl ⟨by rfl, ?hyD0⟩) hHeld ?restD0
    case hyD0 => (intro w hSw; (try dsimp only at hSw); go_simp; (try with_reducible rfl))
    try simp only [Act.put, List.setIfInBounds_toArray, List.set_cons_zero, List.set_cons_succ]
    refine takeH (i := 1) (some 14) (v := ?_) rfl rfl (by kernel_rfl) (by kernel_rfl) (by kernel_rfl) (fun _ _ _ h => h) (Or.inl ⟨by rfl, ?hyD1⟩) hHeld ?restD1
    case hyD1 => (intro w hSw; (try dsimp only at hSw); go_simp; (try with_reducible rfl))
    try simp only [Act.put, List.setIfInBounds_toArray, List.set_cons_zero, List.set_cons_succ]
    refine takeH (i := 2) (some 15) (v := undef) rfl rfl (by kernel_rfl) (by kernel_rfl) (by kernel_rfl) (fun _ _ _ h => h) (Or.inr ⟨by rfl, rfl⟩) hHeld ?_
    try simp only [Act.put, List.setIfInBounds_toArray, List.set_cons_zero, List.set_cons_succ]
    refine takeH (i := 3) (some 16) (v := undef) rfl rfl (by kernel_rfl) (by kernel_rfl) (by kernel_rfl) (fun _ _ _ h => h) (Or.inr ⟨by rfl, rfl⟩) hHeld ?_
    try simp only [Act.put, List.setIfInBounds_toArray, List.set_cons_zero, List.set_cons_succ]
    refine takeH (i := 4) (some 17) (v := undef) rfl rfl (by kernel_rfl) (by kernel_rfl) (by kernel_rfl) (fun _ _ _ h => h) (Or.inr ⟨by rfl, rfl⟩) hHeld ?_
    try simp only [Act.put, List.setIfInBounds_toArray, List.set_cons_zero, List.set_cons_succ]
    refine takeH (i := 5) (some 18) (v := undef) rfl rfl (by kernel_rfl) (by kernel_rfl) (by kernel_rfl) (fun _ _ _ h => h) (Or.inr ⟨by rfl, rfl⟩) hHeld ?_
    try simp only [Act.put, List.setIfInBounds_toArray, List.set_cons_zero, List.set_cons_succ]
    refine takeH (i := 6) (some 19) (v := undef) rfl rfl (by kernel_rfl) (by kernel_rfl) (by kernel_rfl) (fun _ _ _ h => h) (Or.inr ⟨by rfl, rfl⟩) hHeld ?_
    try simp only [Act.put, List.setIfInBounds_toArray, List.set_cons_zero, List.set_cons_succ]
    refine takeH (i := 7) (some 20) (v := undef) rfl rfl (by kernel_rfl) (by kernel_rfl) (by kernel_rfl) (fun _ _ _ h => h) (Or.inr ⟨by rfl, rfl⟩) hHeld ?_
    try simp only [Act.put, List.setIfInBounds_toArray, List.set_cons_zero, List.set_cons_succ]
    refine takeH (i := 8) (some 21) (v := undef) rfl rfl (by kernel_rfl) (by kernel_rfl) (by kernel_rfl) (fun _ _ _ h => h) (Or.inr ⟨by rfl, rfl⟩) hHeld ?_
    try simp only [Act.put, List.setIfInBounds_toArray, List.set_cons_zero, List.set_cons_succ]
    refine takeH (i := 9) (some 22) (v := ?_) rfl rfl (by kernel_rfl) (by kernel_rfl) (by kernel_rfl) (fun _ _ _ h => h) (Or.inl ⟨by rfl, ?hyD9⟩) hHeld ?restD9
    case hyD9 => (intro w hSw; (try dsimp only at hSw); go_simp; (try with_reducible rfl))
    try simp only [Act.put, List.setIfInBounds_toArray, List.set_cons_zero, List.set_cons_succ]
    refine wpAnyH_ready (rs := [10]) (by kernel_rfl) (by simp) ?_
    refine AllReadyH.cons rfl (fun K hK => ?_) AllReadyH.nil
    go_simp
    (with_reducible refine (HU.out _ _).mono ?_); rintro e wn ⟨rfl, rfl⟩
    refine hK.out _ _ ?_ (fun hHeld => ?_)
    · (first | with_reducible assumption | exact MK.out _ (by with_reducible assumption) | exact MK.out _ (below_drew (by with_reducible assumption)))
    clear hK K
    try simp only [Act.put, List.setIfInBounds_toArray, List.set_cons_zero, List.set_cons_succ]
    refine takeH (i := 11) (some 2) (v := ?_) rfl rfl (by kernel_rfl) (by kernel_rfl) (by kernel_rfl) (fun _ _ _ h => h) (Or.inl ⟨by rfl, ?hyD11⟩) hHeld ?restD11
    case hyD11 => (intro w hSw; (try dsimp only at hSw); go_simp; (try with_reducible rfl))
    try simp only [Act.put, List.setIfInBounds_toArray, List.set_cons_zero, List.set_cons_succ]
    refine wpAnyH_done (by kernel_rfl) ?_ _
    have HB2 := Lib.hid (btr HB.out hHeld.2.2.2.2.2.2)
    clear hHeld t0 t1 c0 c1 c2 c3
    go_wp2
    go_ret
    exact ⟨by rw [HR.out]; rfl, HB2.out⟩
  · obtain ⟨hxl, hxi, hxh⟩ := has_yes hr (of_decide_eq_true hkn) now hx
    have HCN := Lib.hid (fun a2 c2 W (h : CrdAt W.heap.size W a2 (l.filter (holdB now))) => Contains_c a2 c2 (l.filter (holdB now)) (Nat.le_trans (List.length_filter_le _ _) hs) x (holdB now x) (by rw [List.mem_filter]; exact ⟨fun h => ⟨hxl, h⟩, fun h => h.2⟩) W h)
    have HHC := Lib.hid (fun W h => holding_ch a cap l hs now W h)
    have HR := Lib.hid hxh
    clear hkn hx HHS HAT hxl hxi hxh
    generalize holdB now x = hb at HCN HR
    go_wp2_with fail
    have u0 : Below W.heap.size W W := Below.refl _ W
    have MK := Lib.hid (show ∀ w', Below W.heap.size W w' → w'.cell? ⟨bs, 0, none⟩ = some (.slice a l.length cap) ∧ w'.cell? ⟨bs, 1, none⟩ = some (.int .i64 now) ∧ w'.cell? ⟨B, 0, none⟩ = some (.int .i64 x.i) ∧ w'.cell? ⟨B, 1, none⟩ = some (.string x.k) ∧ w'.cell? ⟨B, 2, none⟩ = some (.int .i64 x.f) ∧ w'.cell? ⟨B, 3, none⟩ = some (.int .i64 x.t) ∧ Below W.heap.size W w' from fun w' h => ⟨(h.cell (blt t0)).trans t0, (h.cell (blt t1)).trans t1, (h.cell (blt c0)).trans c0, (h.cell (blt c1)).trans c1, (h.cell (blt c2)).trans c2, (h.cell (blt c3)).trans c3, h⟩)
    refine wp_region_held_drew (S := (fun w' => w'.cell? ⟨bs, 0, none⟩ = some (.slice a l.length cap) ∧ w'.cell? ⟨bs, 1, none⟩ = some (.int .i64 now) ∧ w'.cell? ⟨B, 0, none⟩ = some (.int .i64 x.i) ∧ w'.cell? ⟨B, 1, none⟩ = some (.string x.k) ∧ w'.cell? ⟨B, 2, none⟩ = some (.int .i64 x.f) ∧ w'.cell? ⟨B, 3, none⟩ = some (.int .i64 x.t) ∧ Below W.heap.size W w')) (by kernel_rfl) ?_ (fun hHeld => ?_)
    · (first | with_reducible assumption | exact MK.out _ (by with_reducible assumption) | exact MK.out _ (below_drew (by with_reducible assumption)))
    refine takeH (i := 0) (some 13) (v := ?_) rfl rfl (by kernel_rfl) (by kernel_rfl) (by kernel_rfl) (fun _ _ _ h => h) (Or.inl ⟨by rfl, ?hyE0⟩) hHeld ?restE0
    case hyE0 => (intro w hSw; (try dsimp only at hSw); go_simp; (try with_reducible rfl))
    try simp only [Act.put, List.setIfInBounds_toArray, List.set_cons_zero, List.set_cons_succ]
    refine takeH (i := 1) (some 14) (v := ?_) rfl rfl (by kernel_rfl) (by kernel_rfl) (by kernel_rfl) (fun _ _ _ h => h) (Or.inl ⟨by rfl, ?hyE1⟩) hHeld ?restE1
    case hyE1 => (intro w hSw; (try dsimp only at hSw); go_simp; (try with_reducible rfl))
    try simp only [Act.put, List.setIfInBounds_toArray, List.set_cons_zero, List.set_cons_succ]
    refine takeH (i := 2) (some 15) (v := ?_) rfl rfl (by kernel_rfl) (by kernel_rfl) (by kernel_rfl) (fun _ _ _ h => h) (Or.inl ⟨by rfl, ?hyE2⟩) hHeld ?restE2
    case hyE2 => (intro w hSw; (try dsimp only at hSw); go_simp; (try with_reducible rfl))
    try simp only [Act.put, List.setIfInBounds_toArray, List.set_cons_zero, List.set_cons_succ]
    refine takeH (i := 3) (some 16) (v := ?_) rfl rfl (by kernel_rfl) (by kernel_rfl) (by kernel_rfl) (fun _ _ _ h => h) (Or.inl ⟨by rfl, ?hyE3⟩) hHeld ?restE3
    case hyE3 => (intro w hSw; (try dsimp only at hSw); go_simp; (try with_reducible rfl))
    try simp only [Act.put, List.setIfInBounds_toArray, List.set_cons_zero, List.set_cons_succ]
    refine takeH (i := 4) (some 17) (v := ?_) rfl rfl (by kernel_rfl) (by kernel_rfl) (by kernel_rfl) (fun _ _ _ h => h) (Or.inl ⟨by rfl, ?hyE4⟩) hHeld ?restE4
    case hyE4 => (intro w hSw; (try dsimp only at hSw); go_simp; (try with_reducible rfl))
    try simp only [Act.put, List.setIfInBounds_toArray, List.set_cons_zero, List.set_cons_succ]
    refine takeH (i := 5) (some 18) (v := ?_) rfl rfl (by kernel_rfl) (by kernel_rfl) (by kernel_rfl) (fun _ _ _ h => h) (Or.inl ⟨by rfl, ?hyE5⟩) hHeld ?restE5
    case hyE5 => (intro w hSw; (try dsimp only at hSw); go_simp; (try with_reducible rfl))
    try simp only [Act.put, List.setIfInBounds_toArray, List.set_cons_zero, List.set_cons_succ]
    refine takeH (i := 7) (some 20) (v := ?_) rfl rfl (by kernel_rfl) (by kernel_rfl) (by kernel_rfl) (fun _ _ _ h => h) (Or.inl ⟨by rfl, ?hyE7⟩) hHeld ?restE7
    case hyE7 => (intro w hSw; (try dsimp only at hSw); go_simp; (try with_reducible rfl))
    try simp only [Act.put, List.setIfInBounds_toArray, List.set_cons_zero, List.set_cons_succ]
    refine wpAnyH_ready (rs := [6]) (by kernel_rfl) (by simp) ?_
    refine AllReadyH.cons rfl (fun K hK => ?_) AllReadyH.nil
    go_simp
    (with_reducible refine (HHC.out _ (HAW.out.on hHeld.2.2.2.2.2.2)).mono ?_); rintro e wn ⟨v, rfl, ho, pB⟩; have sB := btr hHeld.2.2.2.2.2.2 pB; clear pB hHeld
    refine hK.out _ _ ?_ (fun hHeld => ?_)
    · (first | with_reducible assumption | exact MK.out _ (by with_reducible assumption) | exact MK.out _ (below_drew (by with_reducible assumption)))
    clear hK K
    try simp only [Act.put, List.setIfInBounds_toArray, List.set_cons_zero, List.set_cons_succ]
    obtain ⟨a2, c2', rfl, hA2⟩ := crd_of_row ho
    have HA2 := Lib.hid hA2
    clear hA2 ho
    refine wpAnyH_ready (rs := [8]) (by kernel_rfl) (by simp) ?_
    refine AllReadyH.cons rfl (fun K hK => ?_) AllReadyH.nil
    go_simp
    (with_reducible refine (HCN.out _ _ _ HA2.out).mono ?_); rintro e wn ⟨rfl, pB⟩; have sB := btr hHeld.2.2.2.2.2.2 pB; clear pB hHeld
    refine hK.out _ _ ?_ (fun hHeld => ?_)
    · (first | with_reducible assumption | exact MK.out _ (by with_reducible assumption) | exact MK.out _ (below_drew (by with_reducible assumption)))
    clear hK K
    try simp only [Act.put, List.setIfInBounds_toArray, List.set_cons_zero, List.set_cons_succ]
    refine takeH (i := 9) (some 22) (v := ?_) rfl rfl (by kernel_rfl) (by kernel_rfl) (by kernel_rfl) (fun _ _ _ h => h) (Or.inl ⟨by rfl, ?hyE9⟩) hHeld ?restE9
    case hyE9 => (intro w hSw; (try dsimp only at hSw); go_simp; (try with_reducible rfl))
    try simp only [Act.put, List.setIfInBounds_toArray, List.set_cons_zero, List.set_cons_succ]
    refine wpAnyH_ready (rs := [10]) (by kernel_rfl) (by simp) ?_
    refine AllReadyH.cons rfl (fun K hK => ?_) AllReadyH.nil
    go_simp
    (with_reducible refine (HU.out _ _).mono ?_); rintro e wn ⟨rfl, rfl⟩
    refine hK.out _ _ ?_ (fun hHeld => ?_)
    · (first | with_reducible assumption | exact MK.out _ (by with_reducible assumption) | exact MK.out _ (below_drew (by with_reducible assumption)))
    clear hK K
    try simp only [Act.put, List.setIfInBounds_toArray, List.set_cons_zero, List.set_cons_succ]
    refine takeH (i := 11) (some 2) (v := ?_) rfl rfl (by kernel_rfl) (by kernel_rfl) (by kernel_rfl) (fun _ _ _ h => h) (Or.inl ⟨by rfl, ?hyE11⟩) hHeld ?restE11
    case hyE11 => (intro w hSw; (try dsimp only at hSw); go_simp; (try with_reducible rfl))
    try simp only [Act.put, List.setIfInBounds_toArray, List.set_cons_zero, List.set_cons_succ]
    refine wpAnyH_done (by kernel_rfl) ?_ _
    have HB2 := Lib.hid (btr HB.out hHeld.2.2.2.2.2.2)
    clear hHeld t0 t1 c0 c1 c2 c3
    go_wp2
    go_ret
    exact ⟨by rw [HR.out]; rfl, HB2.out⟩

end Go.Proofs.YtikpmkidfppknaaGreatDoor

/- fault.Between, for any bounds; checks one behind the other. -/
namespace Go.Proofs.YtikpmkidfppknaaGreatDoor
open Go.RowKit Go.Shelf
attribute [local go_sem] Oper.semAt_some

def btB (n lo hi : Int) : Bool := decide (lo ≤ n) && decide (n ≤ hi)
/-- What Between's check reads. -/
structure BtAt (b0 b1 b2 b3 : Nat) (n lo hi no : Int) (W : World) : Prop where
  c0 : W.cell? ⟨b0, 0, none⟩ = some (.int .i64 n)
  c1 : W.cell? ⟨b1, 0, none⟩ = some (.int .i64 lo)
  c2 : W.cell? ⟨b2, 0, none⟩ = some (.int .i64 hi)
  c3 : W.cell? ⟨b3, 0, none⟩ = some (.int .i64 no)
theorem BtAt.on {b0 b1 b2 b3 : Nat} {n lo hi no : Int} {W W' : World} (h : BtAt b0 b1 b2 b3 n lo hi no W) (k : Below W.heap.size W W') : BtAt b0 b1 b2 b3 n lo hi no W' :=
  ⟨(k.cell (blt h.c0)).trans h.c0, (k.cell (blt h.c1)).trans h.c1, (k.cell (blt h.c2)).trans h.c2, (k.cell (blt h.c3)).trans h.c3⟩
def BtP (n lo hi no : Int) (w : World) (y : Ending) (w' : World) : Prop := ∃ b0 b1 b2 b3, y = .returned (.func (.func 55) #[] #[.pointer (some ⟨b0, 0, none⟩), .pointer (some ⟨b1, 0, none⟩), .pointer (some ⟨b2, 0, none⟩), .pointer (some ⟨b3, 0, none⟩)]) ∧ BtAt b0 b1 b2 b3 n lo hi no w' ∧ Below w.heap.size w w'
set_option maxRecDepth 100000 in
set_option maxHeartbeats 4000000 in
theorem between_e (n lo hi no : Int) (w : World) : Calls Tryz.prog 25 #[.int .i64 n, .int .i64 lo, .int .i64 hi, .int .i64 no] w (BtP n lo hi no w) := by
  go_enter Tryz.func25, Tryz.ntmps25
  go_wp2
  go_ret
  exact ⟨w.heap.size, w.heap.size + 1, w.heap.size + 1 + 1, w.heap.size + 1 + 1 + 1, rfl, ⟨by go_simp, by go_simp, by go_simp, by go_simp⟩, bal (bal (bal (below_alloc _ _) _) _) _⟩
set_option maxRecDepth 100000 in
set_option maxHeartbeats 4000000 in
theorem between1_g (n lo hi no : Int) (b0 b1 b2 b3 : Nat) (w : World) (h : BtAt b0 b1 b2 b3 n lo hi no w) : Calls Tryz.prog 55 #[.pointer (some ⟨b0, 0, none⟩), .pointer (some ⟨b1, 0, none⟩), .pointer (some ⟨b2, 0, none⟩), .pointer (some ⟨b3, 0, none⟩)] w fun r w' => r = .returned (errV (btB n lo hi) no) ∧ Below w.heap.size w w' := by
  obtain ⟨c0, c1, c2, c3⟩ := h
  have HU := Lib.hid (fun b => unless_c w b no)
  by_cases k0 : lo ≤ n
  · by_cases k1 : n ≤ hi
    · have he : btB n lo hi = true := by unfold btB; rw [decide_eq_true k0, decide_eq_true k1]; rfl
      rw [he]
      clear he
      go_enter Tryz.func55, Tryz.ntmps55
      go_wp2_with fail
      refine (HU.out true).mono ?_
      rintro e w1 ⟨rfl, rfl⟩
      go_wp2
      go_ret
      exact ⟨rfl, Below.refl _ _⟩
    · have he : btB n lo hi = false := by unfold btB; rw [decide_eq_false k1, Bool.and_false]
      rw [he]
      clear he
      go_enter Tryz.func55, Tryz.ntmps55
      go_wp2_with fail
      refine (HU.out false).mono ?_
      rintro e w1 ⟨rfl, rfl⟩
      go_wp2
      go_ret
      exact ⟨rfl, Below.refl _ _⟩
  · have he : btB n lo hi = false := by unfold btB; rw [decide_eq_false k0, Bool.false_and]
    rw [he]
    clear he
    go_enter Tryz.func55, Tryz.ntmps55
    go_wp2_with fail
    refine (HU.out false).mono ?_
    rintro e w1 ⟨rfl, rfl⟩
    go_wp2
    go_ret
    exact ⟨rfl, Below.refl _ _⟩
theorem errV_two (b : Bool) (c : Int) : errV b c = .nilIface ∨ ∃ t v, errV b c = .iface t v := by
  cases b
  · exact .inr ⟨_, _, rfl⟩
  · exact .inl rfl
/-- The first error of checks that are told by bools and numbers. -/
def firstB : List (Bool × Int) → Value
  | [] => .nilIface
  | (true, _) :: l => firstB l
  | (false, c) :: _ => errV false c
def atL (l : List (Bool × Int)) (i : Nat) : Value := match l[i]? with
  | some p => errV p.1 p.2
  | none => .nilIface
theorem firstE_atL : ∀ (l m : List (Bool × Int)) (i : Nat), m.length = i → firstE (atL (m ++ l)) i l.length = firstB l
  | [], _, _, _ => rfl
  | (b, c) :: l, m, i, hi => by
    have e : atL (m ++ (b, c) :: l) i = errV b c := by
      unfold atL
      rw [List.getElem?_append_right (by omega), hi, Nat.sub_self]
      rfl
    have ih := firstE_atL l (m ++ [(b, c)]) (i + 1) (by simp [hi])
    rw [List.append_assoc] at ih
    cases b
    · rw [List.length_cons, firstE_err (show atL (m ++ (false, c) :: l) i = .iface _ _ from e)]
      rfl
    · rw [List.length_cons, firstE_nil (show atL (m ++ (true, c) :: l) i = .nilIface from e)]
      exact ih
theorem firstE_list (l : List (Bool × Int)) : firstE (atL l) 0 l.length = firstB l := firstE_atL l [] 0 rfl
theorem atL_two (l : List (Bool × Int)) (i : Nat) : atL l i = .nilIface ∨ ∃ t v, atL l i = .iface t v := by
  unfold atL
  cases l[i]? with
  | none => exact .inl rfl
  | some p => exact errV_two _ _
theorem atL_ok {l : List (Bool × Int)} {i : Nat} {b : Bool} {c : Int} (h : l[i]? = some (b, c)) (k : atL l i = .nilIface) : b = true := by
  unfold atL at k
  rw [h] at k
  cases b
  · cases k
  · rfl
/-- The number of the first error, 0 of none. -/
def firstN : List (Bool × Int) → Int
  | [] => 0
  | (true, _) :: l => firstN l
  | (false, c) :: _ => c
theorem firstB_two : ∀ l : List (Bool × Int), (l.all (·.1) = true ∧ firstB l = .nilIface ∧ firstN l = 0) ∨ (l.all (·.1) = false ∧ firstB l = .iface 82 (.agg #[.int .i64 (firstN l)]))
  | [] => .inl ⟨rfl, rfl, rfl⟩
  | (true, c) :: l => by
    rcases firstB_two l with ⟨h1, h2, h3⟩ | ⟨h1, h2⟩
    · exact .inl ⟨by rw [List.all_cons, h1]; rfl, h2, h3⟩
    · exact .inr ⟨by rw [List.all_cons, h1]; rfl, h2⟩
  | (false, c) :: l => .inr ⟨by rw [List.all_cons]; rfl, rfl⟩
end Go.Proofs.YtikpmkidfppknaaGreatDoor

/- What is made for checks, wherever it lies; End. -/
namespace Go.Proofs.YtikpmkidfppknaaGreatDoor
open Go.RowKit Go.Shelf
attribute [local go_sem] Oper.semAt_some

def IrP (a : Option Addr) (n c : Nat) (w : World) (y : Ending) (w' : World) : Prop := ∃ b, y = .returned (.func (.func 51) #[] #[.pointer (some ⟨b, 0, none⟩)]) ∧ w'.cell? ⟨b, 0, none⟩ = some (.slice a n c) ∧ Below w.heap.size w w'
theorem isRight_e (a : Option Addr) (n c : Nat) (w : World) : Calls Tryz.prog 23 #[.slice a n c] w (IrP a n c w) :=
  (isRight_c a n c w).mono fun _ _ ⟨h, k⟩ => ⟨_, h, by rw [k]; go_simp, by rw [k]; exact below_alloc _ _⟩
def IkP (key : ByteArray) (w : World) (y : Ending) (w' : World) : Prop := ∃ b, y = .returned (.func (.func 53) #[] #[.pointer (some ⟨b, 0, none⟩)]) ∧ w'.cell? ⟨b, 0, none⟩ = some (.string key) ∧ Below w.heap.size w w'
theorem isKey_e (key : ByteArray) (w : World) : Calls Tryz.prog 24 #[.string key] w (IkP key w) :=
  (cisKey_c key w).mono fun _ _ ⟨h, k⟩ => ⟨_, h, by rw [k]; go_simp, by rw [k]; exact below_alloc _ _⟩
/-- A set and a number in boxes. -/
structure SetAt (bs bi : Nat) (a : Option Addr) (n c : Nat) (now m : Int) (W : World) : Prop where
  c0 : W.cell? ⟨bs, 0, none⟩ = some (.slice a n c)
  c1 : W.cell? ⟨bs, 1, none⟩ = some (.int .i64 now)
  c2 : W.cell? ⟨bi, 0, none⟩ = some (.int .i64 m)
theorem SetAt.on {bs bi : Nat} {a : Option Addr} {n c : Nat} {now m : Int} {W W' : World} (h : SetAt bs bi a n c now m W) (k : Below W.heap.size W W') : SetAt bs bi a n c now m W' :=
  ⟨(k.cell (blt h.c0)).trans h.c0, (k.cell (blt h.c1)).trans h.c1, (k.cell (blt h.c2)).trans h.c2⟩
def IhP (a : Option Addr) (n c : Nat) (now id : Int) (w : World) (y : Ending) (w' : World) : Prop := ∃ bs bi, y = .returned (.func (.func 58) #[] #[.pointer (some ⟨bs, 0, none⟩), .pointer (some ⟨bi, 0, none⟩)]) ∧ SetAt bs bi a n c now id w' ∧ Below w.heap.size w w'
theorem isHolding_e (a : Option Addr) (n c : Nat) (now id : Int) (w : World) : Calls Tryz.prog 33 #[.agg #[.slice a n c, .int .i64 now], .int .i64 id] w (IhP a n c now id w) :=
  (isHolding_c a n c now id w).mono fun _ _ ⟨h, k⟩ => ⟨_, _, h, ⟨by rw [k]; go_simp, by rw [k]; go_simp, by rw [k]; go_simp⟩, by rw [k]; exact bal (below_alloc _ _) _⟩
def UpP (a : Option Addr) (n c : Nat) (now last : Int) (w : World) (y : Ending) (w' : World) : Prop := ∃ bs bi, y = .returned (.func (.func 57) #[] #[.pointer (some ⟨bs, 0, none⟩), .pointer (some ⟨bi, 0, none⟩)]) ∧ SetAt bs bi a n c now last w' ∧ Below w.heap.size w w'
theorem upTo_e (a : Option Addr) (n c : Nat) (now last : Int) (w : World) : Calls Tryz.prog 30 #[.agg #[.slice a n c, .int .i64 now], .int .i64 last] w (UpP a n c now last w) :=
  (upTo_c a n c now last w).mono fun _ _ ⟨h, k⟩ => ⟨_, _, h, ⟨by rw [k]; go_simp, by rw [k]; go_simp, by rw [k]; go_simp⟩, by rw [k]; exact bal (below_alloc _ _) _⟩
def WoP (a : Option Addr) (n c : Nat) (now id : Int) (w : World) (y : Ending) (w' : World) : Prop := ∃ bs bi, y = .returned (.func (.func 61) #[] #[.pointer (some ⟨bi, 0, none⟩), .pointer (some ⟨bs, 0, none⟩)]) ∧ SetAt bs bi a n c now id w' ∧ Below w.heap.size w w'
theorem without_e (a : Option Addr) (n c : Nat) (now id : Int) (w : World) : Calls Tryz.prog 34 #[.agg #[.slice a n c, .int .i64 now], .int .i64 id] w (WoP a n c now id w) :=
  (without_c a n c now id w).mono fun _ _ ⟨h, k⟩ => ⟨_, _, h, ⟨by rw [k]; go_simp, by rw [k]; go_simp, by rw [k]; go_simp⟩, by rw [k]; exact bal (below_alloc _ _) _⟩
theorem ended_ch (a : Option Addr) (cap : Nat) (l : List Crd) (hs : l.length ≤ 100000) (now id : Int) (bs bi : Nat) (w : World) (hA : CrdAt w.heap.size w a l) (h : SetAt bs bi a l.length cap now id w) : Calls Tryz.prog 29 #[.slice a l.length cap, .func (.func 61) #[] #[.pointer (some ⟨bi, 0, none⟩), .pointer (some ⟨bs, 0, none⟩)]] w (ChP (chL (endS now id) (endD now id) l) w) :=
  changed_c a cap l hs _ _ _ _ _ w hA (enters_of Tryz.func61 (by kernel_rfl) rfl) (fun x _ W hW => without1_c bs bi now id x W (h.on hW).c1 (h.on hW).c2)
theorem rotated_ch (a : Option Addr) (cap : Nat) (l : List Crd) (hs : l.length ≤ 100000) (now last : Int) (bs bl : Nat) (w : World) (hA : CrdAt w.heap.size w a l) (h : SetAt bs bl a l.length cap now last w) : Calls Tryz.prog 29 #[.slice a l.length cap, .func (.func 57) #[] #[.pointer (some ⟨bs, 0, none⟩), .pointer (some ⟨bl, 0, none⟩)]] w (ChP (chL (rotS now last) (rotD last) l) w) :=
  changed_c a cap l hs _ _ _ _ _ w hA (enters_of Tryz.func57 (by kernel_rfl) rfl) (fun x _ W hW => upTo1_c bs bl now last x W (h.on hW).c1 (h.on hW).c2)
end Go.Proofs.YtikpmkidfppknaaGreatDoor

/- End. -/
namespace Go.Proofs.YtikpmkidfppknaaGreatDoor
open Go.RowKit Go.Shelf
attribute [local go_sem] Oper.semAt_some

theorem ErrT.onB {W W' : World} (h : ErrT W) (k : Below W.heap.size W W') : ErrT W' := (k.cell (p := ⟨0, 0, none⟩) (blt h)).trans h
def endCh (l : List Crd) (id now : Int) : List (Bool × Int) := [(rightB l, 110), (btB now 0 1000000000000, 2), (hasB l id now, 2)]
def endN (l : List Crd) (id now : Int) : Int := firstN (endCh l id now)
def endM (l : List Crd) (id now : Int) : List Crd := if (endCh l id now).all (·.1) = true then chL (endS now id) (endD now id) l else []
/-- What End leaves. -/
def EndP (l : List Crd) (id now : Int) (w : World) (y : Ending) (w' : World) : Prop := ∃ v, y = .returned (.tuple #[v, .int .i64 (endN l id now)]) ∧ w'.ownsRow w.heap.size 37 4 v (endM l id now).length (crdCs (endM l id now)) ∧ Below w.heap.size w w'
theorem endFirst_c (a : Option Addr) (cap : Nat) (l : List Crd) (hs : l.length ≤ 100000) (id now : Int) (hid : -9223372036854775808 ≤ id ∧ id ≤ 9223372036854775807) (w : World) (b b1 p0 p1 p2 p3 bs bi : Nat)
    (c0 : w.cell? ⟨b, 0, none⟩ = some (.func (.func 51) #[] #[.pointer (some ⟨b1, 0, none⟩)]))
    (c1 : w.cell? ⟨b, 1, none⟩ = some (.func (.func 55) #[] #[.pointer (some ⟨p0, 0, none⟩), .pointer (some ⟨p1, 0, none⟩), .pointer (some ⟨p2, 0, none⟩), .pointer (some ⟨p3, 0, none⟩)]))
    (c2 : w.cell? ⟨b, 2, none⟩ = some (.func (.func 58) #[] #[.pointer (some ⟨bs, 0, none⟩), .pointer (some ⟨bi, 0, none⟩)]))
    (k1 : w.cell? ⟨b1, 0, none⟩ = some (.slice a l.length cap)) (kb : BtAt p0 p1 p2 p3 now 0 1000000000000 2 w) (ks : SetAt bs bi a l.length cap now id w) (hA : CrdAt w.heap.size w a l) :
    Calls Tryz.prog 22 #[.slice (some ⟨b, 0, none⟩) 3 3] w fun y w' => y = .returned (firstB (endCh l id now)) ∧ Below w.heap.size w w' := by
  have h3 : ∀ i, i < 3 → i = 0 ∨ i = 1 ∨ i = 2 := fun i h => by omega
  have hf : firstE (atL (endCh l id now)) 0 3 = firstB (endCh l id now) := firstE_list (endCh l id now)
  rw [← hf]
  refine faultFirst_c 3 (by omega) b (fun i => match i with | 0 => 51 | 1 => 55 | _ => 58) (fun _ => #[]) (fun i => match i with | 0 => #[.pointer (some ⟨b1, 0, none⟩)] | 1 => #[.pointer (some ⟨p0, 0, none⟩), .pointer (some ⟨p1, 0, none⟩), .pointer (some ⟨p2, 0, none⟩), .pointer (some ⟨p3, 0, none⟩)] | _ => #[.pointer (some ⟨bs, 0, none⟩), .pointer (some ⟨bi, 0, none⟩)]) (atL (endCh l id now)) w ?_ ?_ ?_ ?_
  · intro i hi
    obtain rfl | rfl | rfl := h3 i hi
    · exact c0
    · exact c1
    · exact c2
  · intro i hi hprev W hW
    obtain rfl | rfl | rfl := h3 i hi
    · exact isRight1_c a cap l hs b1 W ((hW.cell (blt k1)).trans k1) (hA.on hW)
    · exact between1_g now 0 1000000000000 2 p0 p1 p2 p3 W (kb.on hW)
    · have hr : rightB l = true := atL_ok (c := 110) rfl (hprev 0 (by omega))
      exact isHolding1_c a cap l hs hr now id hid bs bi W (ks.on hW).c0 (ks.on hW).c1 (ks.on hW).c2 (hA.on hW)
  · intro i hi args W
    obtain rfl | rfl | rfl := h3 i hi
    · exact enters_of Tryz.func51 (by kernel_rfl) rfl args W
    · exact enters_of Tryz.func55 (by kernel_rfl) rfl args W
    · exact enters_of Tryz.func58 (by kernel_rfl) rfl args W
  · exact fun i _ => atL_two _ i
set_option maxRecDepth 100000 in
set_option maxHeartbeats 4000000 in
theorem End_c (a : Option Addr) (cap : Nat) (l : List Crd) (hs : l.length ≤ 100000) (id now : Int) (hid : -9223372036854775808 ≤ id ∧ id ≤ 9223372036854775807) (w : World) (hA : CrdAt w.heap.size w a l) (hE : ErrT w) :
    Calls Tryz.prog 13 #[.slice a l.length cap, .int .i64 id, .int .i64 now] w (EndP l id now w) := by
  have HIR := Lib.hid (fun W => isRight_e a l.length cap W)
  have HBE := Lib.hid (fun W => between_e now 0 1000000000000 2 W)
  have HIH := Lib.hid (fun W => isHolding_e a l.length cap now id W)
  have HFI := Lib.hid (endFirst_c a cap l hs id now hid)
  have HWO := Lib.hid (fun W => without_e a l.length cap now id W)
  have HED := Lib.hid (ended_ch a cap l hs now id)
  have HWI := Lib.hid (fun c W => within_c ⟨#[101, 110, 100]⟩ c W)
  have HNO := Lib.hid (fun c W h => no_in W ⟨#[101, 110, 100]⟩ c h)
  have HE := Lib.hid hE
  have HM := Lib.hid (show endM l id now = if (endCh l id now).all (·.1) = true then chL (endS now id) (endD now id) l else [] from rfl)
  have HN := Lib.hid (show endN l id now = firstN (endCh l id now) from rfl)
  have HT := firstB_two (endCh l id now)
  have HAU := Lib.hid (hA.on (below_alloc w (.cells #[.slice a l.length cap, .int .i64 now] 57)))
  have HBU := Lib.hid (below_alloc w (.cells #[.slice a l.length cap, .int .i64 now] 57))
  have t0 : (w.alloc (.cells #[.slice a l.length cap, .int .i64 now] 57)).cell? ⟨w.heap.size, 0, none⟩ = some (.slice a l.length cap) := by go_simp
  have t1 : (w.alloc (.cells #[.slice a l.length cap, .int .i64 now] 57)).cell? ⟨w.heap.size, 1, none⟩ = some (.int .i64 now) := by go_simp
  clear hA hE hid
  obtain ⟨V, hV⟩ : ∃ V, firstB (endCh l id now) = V := ⟨_, rfl⟩
  rw [hV] at HFI HT
  have HTT := Lib.hid HT
  clear HT hV
  go_enter Tryz.func13, Tryz.ntmps13
  go_wp2_with fail
  generalize w.alloc (.cells #[.slice a l.length cap, .int .i64 now] 57) = U at *
  have u0 : Below U.heap.size U U := Below.refl _ U
  have MK := Lib.hid (show ∀ w', Below U.heap.size U w' → w'.cell? ⟨w.heap.size, 0, none⟩ = some (.slice a l.length cap) ∧ w'.cell? ⟨w.heap.size, 1, none⟩ = some (.int .i64 now) ∧ Below U.heap.size U w' from fun w' h => ⟨(h.cell (blt t0)).trans t0, (h.cell (blt t1)).trans t1, h⟩)
  refine wp_region_held_drew (S := (fun w' => w'.cell? ⟨w.heap.size, 0, none⟩ = some (.slice a l.length cap) ∧ w'.cell? ⟨w.heap.size, 1, none⟩ = some (.int .i64 now) ∧ Below U.heap.size U w')) (by kernel_rfl) ?_ (fun hHeld => ?_)
  · (first | with_reducible assumption | exact MK.out _ (by with_reducible assumption) | exact MK.out _ (below_drew (by with_reducible assumption)))
  refine takeH (i := 0) (some 13) (v := ?_) rfl rfl (by kernel_rfl) (by kernel_rfl) (by kernel_rfl) (fun _ _ _ h => h) (Or.inl ⟨by rfl, ?hyA0⟩) hHeld ?restA0
  case hyA0 => (intro w hSw; (try dsimp only at hSw); go_simp; (try with_reducible rfl))
  try simp only [Act.put, List.setIfInBounds_toArray, List.set_cons_zero, List.set_cons_succ]
  refine takeH (i := 2) (some 15) (v := ?_) rfl rfl (by kernel_rfl) (by kernel_rfl) (by kernel_rfl) (fun _ _ _ h => h) (Or.inl ⟨by rfl, ?hyA2⟩) hHeld ?restA2
  case hyA2 => (intro w hSw; (try dsimp only at hSw); go_simp; (try with_reducible rfl))
  try simp only [Act.put, List.setIfInBounds_toArray, List.set_cons_zero, List.set_cons_succ]
  refine takeH (i := 4) (some 17) (v := ?_) rfl rfl (by kernel_rfl) (by kernel_rfl) (by kernel_rfl) (fun _ _ _ h => h) (Or.inl ⟨by rfl, ?hyA4⟩) hHeld ?restA4
  case hyA4 => (intro w hSw; (try dsimp only at hSw); go_simp; (try with_reducible rfl))
  try simp only [Act.put, List.setIfInBounds_toArray, List.set_cons_zero, List.set_cons_succ]
  refine takeH (i := 5) (some 18) (v := ?_) rfl rfl (by kernel_rfl) (by kernel_rfl) (by kernel_rfl) (fun _ _ _ h => h) (Or.inl ⟨by rfl, ?hyA5⟩) hHeld ?restA5
  case hyA5 => (intro w hSw; (try dsimp only at hSw); go_simp; (try with_reducible rfl))
  try simp only [Act.put, List.setIfInBounds_toArray, List.set_cons_zero, List.set_cons_succ]
  refine wpAnyH_ready (rs := [1]) (by kernel_rfl) (by simp) ?_
  refine AllReadyH.cons rfl (fun K hK => ?_) AllReadyH.nil
  go_simp
  (with_reducible refine (HIR.out _).mono ?_); rintro e wn ⟨b1, rfl, k1, pB⟩; have sB := btr hHeld.2.2 pB; clear pB hHeld
  refine hK.out _ _ ?_ (fun hHeld => ?_)
  · (first | with_reducible assumption | exact MK.out _ (by with_reducible assumption) | exact MK.out _ (below_drew (by with_reducible assumption)))
  clear hK K
  try simp only [Act.put, List.setIfInBounds_toArray, List.set_cons_zero, List.set_cons_succ]
  refine wpAnyH_ready (rs := [3]) (by kernel_rfl) (by simp) ?_
  refine AllReadyH.cons rfl (fun K hK => ?_) AllReadyH.nil
  go_simp
  (with_reducible refine (HBE.out _).mono ?_); rintro e wn ⟨p0, p1, p2, p3, rfl, kb, pB⟩; replace k1 := (pB.cell (blt k1)).trans k1; have sB := btr hHeld.2.2 pB; clear pB hHeld
  refine hK.out _ _ ?_ (fun hHeld => ?_)
  · (first | with_reducible assumption | exact MK.out _ (by with_reducible assumption) | exact MK.out _ (below_drew (by with_reducible assumption)))
  clear hK K
  try simp only [Act.put, List.setIfInBounds_toArray, List.set_cons_zero, List.set_cons_succ]
  refine wpAnyH_ready (rs := [6]) (by kernel_rfl) (by simp) ?_
  refine AllReadyH.cons rfl (fun K hK => ?_) AllReadyH.nil
  go_simp
  (with_reducible refine (HIH.out _).mono ?_); rintro e wn ⟨bs, bi, rfl, ks, pB⟩; replace k1 := (pB.cell (blt k1)).trans k1; replace kb := kb.on pB; have sB := btr hHeld.2.2 pB; clear pB hHeld
  refine hK.out _ _ ?_ (fun hHeld => ?_)
  · (first | with_reducible assumption | exact MK.out _ (by with_reducible assumption) | exact MK.out _ (below_drew (by with_reducible assumption)))
  clear hK K
  try simp only [Act.put, List.setIfInBounds_toArray, List.set_cons_zero, List.set_cons_succ]
  have hHU := hHeld.2.2
  refine wpAnyH_ready (rs := [7]) (by kernel_rfl) (by simp) ?_
  refine AllReadyH.cons rfl (fun K hK => ?_) AllReadyH.nil
  go_simp
  refine hK.out _ _ ?_ (fun hHeld => ?_)
  · exact MK.out _ (bal hHeld.2.2 _)
  clear hK K
  try simp only [Act.put, List.setIfInBounds_toArray, List.set_cons_zero, List.set_cons_succ]
  refine wpAnyH_ready (rs := [8]) (by kernel_rfl) (by simp) ?_
  refine AllReadyH.cons rfl (fun K hK => ?_) AllReadyH.nil
  go_simp
  (refine (HFI.out _ wn.heap.size b1 p0 p1 p2 p3 bs bi ?q0 ?q1 ?q2 ?q3 ?q4 ?q5 ?q6).mono ?_); (case q0 => go_simp); (case q1 => go_simp); (case q2 => go_simp); (case q3 => exact ((below_alloc wn _).cell (blt k1)).trans k1); (case q4 => exact kb.on (below_alloc wn _)); (case q5 => exact ks.on (below_alloc wn _)); (case q6 => exact (HAU.out.on hHU).on (below_alloc wn _)); rintro e wn2 ⟨rfl, pB⟩; have sB := btr hHeld.2.2 pB; clear pB hHeld k1 kb ks hHU
  refine hK.out _ _ ?_ (fun hHeld => ?_)
  · (first | with_reducible assumption | exact MK.out _ (by with_reducible assumption) | exact MK.out _ (below_drew (by with_reducible assumption)))
  clear hK K
  try simp only [Act.put, List.setIfInBounds_toArray, List.set_cons_zero, List.set_cons_succ]
  refine takeH (i := 9) (some 9) (v := ?_) rfl rfl (by kernel_rfl) (by kernel_rfl) (by kernel_rfl) (fun _ _ _ h => h) (Or.inl ⟨by rfl, ?hyA9⟩) hHeld ?restA9
  case hyA9 => (intro w hSw; (try dsimp only at hSw); go_simp; (try with_reducible rfl))
  try simp only [Act.put, List.setIfInBounds_toArray, List.set_cons_zero, List.set_cons_succ]
  refine wpAnyH_done (by kernel_rfl) ?_ _
  have HY := Lib.hid (btr HBU.out hHeld.2.2)
  have HAY := Lib.hid (HAU.out.on hHeld.2.2)
  have y0 := hHeld.1
  have y1 := hHeld.2.1
  clear hHeld t0 t1 u0 MK
  generalize wn2 = Y at *
  rcases HTT.out with ⟨h1, rfl, h3⟩ | ⟨h1, rfl⟩
  · rw [h3] at HN
    rw [if_pos h1] at HM
    rw [← HM.out] at HED
    clear HTT h1 h3
    go_wp2_with fail
    have u0 : Below Y.heap.size Y Y := Below.refl _ Y
    have MK := Lib.hid (show ∀ w', Below Y.heap.size Y w' → w'.cell? ⟨w.heap.size, 0, none⟩ = some (.slice a l.length cap) ∧ w'.cell? ⟨w.heap.size, 1, none⟩ = some (.int .i64 now) ∧ Below Y.heap.size Y w' from fun w' h => ⟨(h.cell (blt y0)).trans y0, (h.cell (blt y1)).trans y1, h⟩)
    refine wp_region_held_drew (S := (fun w' => w'.cell? ⟨w.heap.size, 0, none⟩ = some (.slice a l.length cap) ∧ w'.cell? ⟨w.heap.size, 1, none⟩ = some (.int .i64 now) ∧ Below Y.heap.size Y w')) (by kernel_rfl) ?_ (fun hHeld => ?_)
    · (first | with_reducible assumption | exact MK.out _ (by with_reducible assumption) | exact MK.out _ (below_drew (by with_reducible assumption)))
    refine takeH (i := 0) (some 27) (v := ?_) rfl rfl (by kernel_rfl) (by kernel_rfl) (by kernel_rfl) (fun _ _ _ h => h) (Or.inl ⟨by rfl, ?hyB0⟩) hHeld ?restB0
    case hyB0 => (intro w hSw; (try dsimp only at hSw); go_simp; (try with_reducible rfl))
    try simp only [Act.put, List.setIfInBounds_toArray, List.set_cons_zero, List.set_cons_succ]
    refine takeH (i := 1) (some 28) (v := ?_) rfl rfl (by kernel_rfl) (by kernel_rfl) (by kernel_rfl) (fun _ _ _ h => h) (Or.inl ⟨by rfl, ?hyB1⟩) hHeld ?restB1
    case hyB1 => (intro w hSw; (try dsimp only at hSw); go_simp; (try with_reducible rfl))
    try simp only [Act.put, List.setIfInBounds_toArray, List.set_cons_zero, List.set_cons_succ]
    refine takeH (i := 2) (some 29) (v := ?_) rfl rfl (by kernel_rfl) (by kernel_rfl) (by kernel_rfl) (fun _ _ _ h => h) (Or.inl ⟨by rfl, ?hyB2⟩) hHeld ?restB2
    case hyB2 => (intro w hSw; (try dsimp only at hSw); go_simp; (try with_reducible rfl))
    try simp only [Act.put, List.setIfInBounds_toArray, List.set_cons_zero, List.set_cons_succ]
    refine takeH (i := 3) (some 30) (v := ?_) rfl rfl (by kernel_rfl) (by kernel_rfl) (by kernel_rfl) (fun _ _ _ h => h) (Or.inl ⟨by rfl, ?hyB3⟩) hHeld ?restB3
    case hyB3 => (intro w hSw; (try dsimp only at hSw); go_simp; (try with_reducible rfl))
    try simp only [Act.put, List.setIfInBounds_toArray, List.set_cons_zero, List.set_cons_succ]
    refine wpAnyH_ready (rs := [4]) (by kernel_rfl) (by simp) ?_
    refine AllReadyH.cons rfl (fun K hK => ?_) AllReadyH.nil
    go_simp
    (with_reducible refine (HWO.out _).mono ?_); rintro e wn ⟨bs, bi, rfl, ks, pB⟩; have sB := btr hHeld.2.2 pB; clear pB hHeld
    refine hK.out _ _ ?_ (fun hHeld => ?_)
    · (first | with_reducible assumption | exact MK.out _ (by with_reducible assumption) | exact MK.out _ (below_drew (by with_reducible assumption)))
    clear hK K
    try simp only [Act.put, List.setIfInBounds_toArray, List.set_cons_zero, List.set_cons_succ]
    refine wpAnyH_ready (rs := [5]) (by kernel_rfl) (by simp) ?_
    refine AllReadyH.cons rfl (fun K hK => ?_) AllReadyH.nil
    go_simp
    (with_reducible refine (HED.out bs bi _ (HAY.out.on hHeld.2.2) ks).mono ?_); rintro e wn ⟨v, rfl, ho, pB⟩; replace ho := row_mono ho (z' := w.heap.size) (Nat.le_trans HY.out.size (hHeld.2.2).size); have sB := btr hHeld.2.2 pB; clear pB hHeld
    refine hK.out _ _ ?_ (fun hHeld => ?_)
    · (first | with_reducible assumption | exact MK.out _ (by with_reducible assumption) | exact MK.out _ (below_drew (by with_reducible assumption)))
    clear hK K
    try simp only [Act.put, List.setIfInBounds_toArray, List.set_cons_zero, List.set_cons_succ]
    refine takeH (i := 6) (some 6) (v := ?_) rfl rfl (by kernel_rfl) (by kernel_rfl) (by kernel_rfl) (fun _ _ _ h => h) (Or.inl ⟨by rfl, ?hyB6⟩) hHeld ?restB6
    case hyB6 => (intro w hSw; (try dsimp only at hSw); go_simp; (try with_reducible rfl))
    try simp only [Act.put, List.setIfInBounds_toArray, List.set_cons_zero, List.set_cons_succ]
    refine takeH (i := 7) (some 7) (v := ?_) rfl rfl (by kernel_rfl) (by kernel_rfl) (by kernel_rfl) (fun _ _ _ h => h) (Or.inl ⟨by rfl, ?hyB7⟩) hHeld ?restB7
    case hyB7 => (intro w hSw; (try dsimp only at hSw); go_simp; (try with_reducible rfl))
    try simp only [Act.put, List.setIfInBounds_toArray, List.set_cons_zero, List.set_cons_succ]
    refine wpAnyH_done (by kernel_rfl) ?_ _
    have HB2 := Lib.hid (btr HY.out hHeld.2.2)
    have HO := Lib.hid ho
    clear ho
    go_wp2
    go_ret2
    exact ⟨v, by rw [HN.out]; rfl, HO.out, HB2.out⟩
  · have HR := Lib.hid (show endM l id now = [] by rw [HM.out, if_neg (by rw [h1]; decide)])
    clear HTT h1 HM
    go_wp2_with fail
    refine (HWI.out _ _).mono ?_; rintro e w3 ⟨rfl, rfl⟩
    go_wp2_with fail
    refine (HNO.out _ _ (HE.out.onB HY.out)).mono ?_; rintro e w4 ⟨rfl, hb⟩
    have HB2 := Lib.hid (btr HY.out hb)
    clear hb y0 y1
    go_wp2
    go_ret2
    refine ⟨_, by rw [HN.out]; rfl, ?_, HB2.out⟩
    rw [HR.out]
    exact World.ownsRow_nil _ _ _ _
end Go.Proofs.YtikpmkidfppknaaGreatDoor

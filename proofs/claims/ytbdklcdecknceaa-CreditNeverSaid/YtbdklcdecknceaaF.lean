/- credit.through, for a meter's two steps. -/
import Derived.Test.YtbdklcdecknceaaE
namespace Go.Proofs.Ytbdklcdecknceaa
open Go.RowKit Go.Shelf
attribute [local go_sem] Oper.semAt_some

section
variable {F : Fence} {n : Nat} {P : Program} {b : Frame} {a : Act} {k : List Item} {cs : List Frame} {w : World} {Q : Exit → Act → World → Prop}

theorem stepR_scope {c : Code} : step P (lone (b.atR a (.code (.scope c) :: k)) cs w) = .next (lone (b.atR a (.code c :: .inScope c :: k)) cs w) :=
  step_lone_go (by simp [stepG, stepG.exec, Frame.atR])
theorem stepR_inScope {c : Code} : step P (lone (b.atR a (.inScope c :: k)) cs w) = .next (lone (b.atR a k) cs w) :=
  step_lone_go (by simp [stepG, stepG.exec, Frame.atR])

/-- A scope through which the run goes without a goto, inside a fence. -/
theorem wpIn_scope_straight {c : Code} (h : c.wpIn F n P (Exit.noGoto Q) a w) : (Code.scope c).wpIn F n P Q a w := by
  intro b k cs hro hb hr
  have h0 : (lone (b.atR a (.code (.scope c) :: k)) cs w).fenced P F := fenced_calm hb hr rfl
  obtain ⟨e, a₁, w₁, hq, harr⟩ := h b (.inScope c :: k) cs hro hb hr
  cases e with
  | normal => exact ⟨.normal, a₁, w₁, hq, .head h0 stepR_scope (StepsIn.trans harr (.one (fenced_calm hb hr rfl) stepR_inScope))⟩
  | exit id =>
    have hx : exitTo id (.inScope c :: k) = exitTo id k := by simp [exitTo]
    exact ⟨.exit id, a₁, w₁, hq, fun k' hk => .head h0 stepR_scope (harr.1 k' (by rw [hx]; exact hk)),
      fun hr' hk => let ⟨k₁, h1, h2⟩ := harr.2 hr' (by rw [hx]; exact hk); ⟨k₁, h1, .head h0 stepR_scope h2⟩⟩
  | goto l => exact hq.elim
  | ret => exact ⟨_, a₁, w₁, hq, .of_steps (.one h0 stepR_scope) harr⟩
  | panic ch => exact ⟨_, a₁, w₁, hq, .of_steps (.one h0 stepR_scope) harr⟩
  | outgrown => exact ⟨_, a₁, w₁, hq, .of_steps (.one h0 stepR_scope) harr⟩
end

def lowest (m : Int) (l : List Int) : Int := l.foldl min m
theorem lowest_snoc (m : Int) (l : List Int) (x : Int) : lowest m (l ++ [x]) = min (lowest m l) x := by simp [lowest]
theorem cell_set_other (W : World) (v : Value) {b bm : Nat} (o : Nat) (hne : b ≠ bm) : (W.setCell ⟨bm, 0, none⟩ v).cell? ⟨b, o, none⟩ = W.cell? ⟨b, o, none⟩ :=
  World.cell?_of_block (w := W) (Below.heap_setCell W ⟨bm, 0, none⟩ v b hne)

set_option maxHeartbeats 1000000 in
theorem isCount_in (F : Fence) (n : Nat) (h26 : F.fn 26) (hro : F.round = none) (p : Option Addr) (x : Int) (w : World) :
    CallsIn F n Try.prog 26 #[.pointer p, .int .i64 x] w fun e w' => e = .returned (.bool (decide (0 ≤ x))) ∧ w = w' := by
  refine callsIn_of_wp Try.func26 rfl h26 ?_ hro
  simp only [Try.ntmps26, List.size_toArray, List.length_cons, List.length_nil, Nat.reduceAdd, Nat.reduceSub, Array.replicate_succ, Array.replicate_zero, List.push_toArray, List.append_toArray, List.nil_append, List.cons_append]
  gi_wp2
  go_ret
  exact ⟨rfl, rfl⟩

set_option maxHeartbeats 1000000 in
theorem lower_in (F : Fence) (n : Nat) (h27 : F.fn 27) (hro : F.round = none) (b : Nat) (m x : Int) (w : World) (hc : w.cell? ⟨b, 0, none⟩ = some (.int .i64 m)) (hf : w.frozen? ⟨b, 0, none⟩ = false) :
    CallsIn F n Try.prog 27 #[.pointer (some ⟨b, 0, none⟩), .int .i64 x] w fun e w' => e = .returned (.bool true) ∧ w' = w.setCell ⟨b, 0, none⟩ (.int .i64 (min m x)) := by
  refine callsIn_of_wp Try.func27 rfl h27 ?_ hro
  simp only [Try.ntmps27, List.size_toArray, List.length_cons, List.length_nil, Nat.reduceAdd, Nat.reduceSub, Array.replicate_succ, Array.replicate_zero, List.push_toArray, List.append_toArray, List.nil_append, List.cons_append]
  gi_wp2
  all_goals
    go_ret
    refine ⟨rfl, ?_⟩
    rw [Int.min_def]; first | rw [if_pos (by omega)] | rw [if_neg (by omega)]

set_option maxRecDepth 100000 in
set_option maxHeartbeats 2000000 in
theorem through_in (F : Fence) (n : Nat) (h25 : F.fn 25) (h26 : F.fn 26) (h27 : F.fn 27) (h33 : F.fn 33) (h34 : F.fn 34) (hro : F.round = none) (hn : 5 ≤ n) (a : Option Addr) (len cap : Nat) (zs : List Int) (hreach : zs.length * 8 ≤ 140737488351232)
    (n₀ bS bm : Nat) (m : Int) (w : World) (hI : Ints n₀ w (.slice a len cap) zs) (hm0 : n₀ ≤ bm) (hmb : bm < w.heap.size) (hSb : bS < w.heap.size) (hne : bS ≠ bm)
    (hm : w.cell? ⟨bm, 0, none⟩ = some (.int .i64 m)) (hmf : w.frozen? ⟨bm, 0, none⟩ = false)
    (hs0 : w.cell? ⟨bS, 0, none⟩ = some (.func (.func 26) #[.pointer (some ⟨bm, 0, none⟩)] #[])) (hs1 : w.cell? ⟨bS, 1, none⟩ = some (.func (.func 27) #[.pointer (some ⟨bm, 0, none⟩)] #[])) :
    CallsIn F n Try.prog 25 #[.slice a len cap, .slice (some ⟨bS, 0, none⟩) 2 2] w fun e W' => e = .returned (.bool (decide (∀ x ∈ zs, 0 ≤ x))) ∧ ((∀ x ∈ zs, 0 ≤ x) → W'.cell? ⟨bm, 0, none⟩ = some (.int .i64 (lowest m zs))) ∧ Below n₀ w W' := by
  have h1 : 1 ≤ n := by omega
  refine callsIn_of_wp_marks Try.func25 rfl h25 ?_ hro
  simp only [Try.ntmps25, List.size_toArray, List.length_cons, List.length_nil, Nat.reduceAdd, Nat.reduceSub, Array.replicate_succ, Array.replicate_zero, List.push_toArray, List.append_toArray, List.nil_append, List.cons_append]
  gi_wp2
  refine wpIn_scope_straight ?_
  gi_wp2
  refine wpIn_label ?_
  gi_wp2_with (gi_at_call 33; refine (values_in F (n - 1) h33 hro _ _ _ _).mono ?_; rintro e w' ⟨rfl, rfl⟩)
  have bT := Boxed.new w 53 (.slice (some ⟨bS, 0, none⟩) 2 2)
  have bG := Boxed.new (w.alloc (.cells #[.slice (some ⟨bS, 0, none⟩) 2 2] 53)) 4 (.bool true)
  have bN := Boxed.new ((w.alloc (.cells #[.slice (some ⟨bS, 0, none⟩) 2 2] 53)).alloc (.cells #[.bool true] 4)) 24 (.slice a len cap)
  simp only [World.size_alloc] at bG bN
  have hB0 : Below w.heap.size w (((w.alloc (.cells #[.slice (some ⟨bS, 0, none⟩) 2 2] 53)).alloc (.cells #[.bool true] 4)).alloc (.cells #[.slice a len cap] 24)) := (((Below.refl _ w).alloc (Nat.le_refl _) _).alloc (by simp) _).alloc (by simp; omega) _
  have hB0' : Below n₀ w (((w.alloc (.cells #[.slice (some ⟨bS, 0, none⟩) 2 2] 53)).alloc (.cells #[.bool true] 4)).alloc (.cells #[.slice a len cap] 24)) := hB0.mono (by omega)
  refine wpIn_rangeFunc_ownG hro h1 (gf := 34) (lb := #[.pointer (some ⟨w.heap.size + 1 + 1, 0, none⟩)]) rfl h34 (enters_of Try.func34 (by kernel_rfl) rfl)
    (values_stops F (n - 1) h34 hro (by omega) (w.heap.size + 1 + 1) n₀ _ zs hreach _ (by simp) (by simp; omega) bN.cell (hI.below hB0')) belowK_t (belowK_b (by simp; omega)) (Below.refl _ _) (fun _ => rfl)
    (fun pre W => ((∀ y ∈ pre, 0 ≤ y) ∧ W.cell? ⟨bm, 0, none⟩ = some (.int .i64 (lowest m pre)) ∧ W.frozen? ⟨bm, 0, none⟩ = false ∧
        W.cell? ⟨w.heap.size, 0, none⟩ = some (.slice (some ⟨bS, 0, none⟩) 2 2) ∧ W.cell? ⟨w.heap.size + 1, 0, none⟩ = some (.bool true) ∧ W.frozen? ⟨w.heap.size + 1, 0, none⟩ = false ∧
        W.cell? ⟨bS, 0, none⟩ = some (.func (.func 26) #[.pointer (some ⟨bm, 0, none⟩)] #[]) ∧ W.cell? ⟨bS, 1, none⟩ = some (.func (.func 27) #[.pointer (some ⟨bm, 0, none⟩)] #[])) ∧ Below n₀ w W)
    (fun c pre W => (c = .exit 0 ∧ (¬ ∀ y ∈ pre, 0 ≤ y) ∧ W.cell? ⟨w.heap.size + 1, 0, none⟩ = some (.bool false)) ∧ Below n₀ w W)
    (OwnFrom.and (Own.from (fun s A B row hs hg hr => ⟨hs.1, cell_kept hs.2.1 hg hr, (frozen_kept hs.2.1 hg hr).trans hs.2.2.1, cell_kept hs.2.2.2.1 hg hr, cell_kept hs.2.2.2.2.1 hg hr, (frozen_kept hs.2.2.2.2.1 hg hr).trans hs.2.2.2.2.2.1, cell_kept hs.2.2.2.2.2.2.1 hg hr, cell_kept hs.2.2.2.2.2.2.2 hg hr⟩) _) (ownFrom_below (by omega) (by simp; omega)))
    (fun c => OwnFrom.and (Own.from (fun s A B row hs hg hr => ⟨hs.1, hs.2.1, cell_kept hs.2.2 hg hr⟩) _) (ownFrom_below (by omega) (by simp; omega)))
    ⟨⟨by simp, (hB0.cell (p := ⟨bm, 0, none⟩) hmb).trans hm, (hB0.frozen (p := ⟨bm, 0, none⟩) hmb).trans hmf, ((bT.alloc _).alloc _).cell, (bG.alloc _).cell, (bG.alloc _).frozen, (hB0.cell (p := ⟨bS, 0, none⟩) hSb).trans hs0, (hB0.cell (p := ⟨bS, 1, none⟩) hSb).trans hs1⟩, hB0'⟩
    (fun x => { tmps := #[.slice a len cap, .slice (some ⟨bS, 0, none⟩) 2 2, undef, .pointer (some ⟨w.heap.size, 0, none⟩), .bool false, .pointer (some ⟨w.heap.size + 1, 0, none⟩), .int .i64 x, undef, undef, .slice a len cap, .func (.func 34) #[] #[.pointer (some ⟨w.heap.size + 1 + 1, 0, none⟩)], .int .i64 x, undef, undef, undef, undef, undef, undef, undef, undef, undef, undef, undef, undef], defers := [] }) ?assign ?body ?done ?stop
  case assign =>
    intro l x W K hK
    gi_wp2
    exact hK
  case body =>
    rintro l pre x W ⟨⟨hp, km, kf, kT, kG, kGf, k0, k1⟩, hB⟩ _
    clear hI bT bG bN hB0 hB0' hm hmf hs0 hs1
    have h3 : 1 ≤ n - 1 - 1 := by omega
    by_cases hx : 0 ≤ x
    · gi_wp2_with fail
      refine wpIn_loop_rounds 3 ?_
      rw [roundsIn_succ]
      gi_wp2_with (gi_at_call 26; refine (CallsIn.inRound l (isCount_in F _ h26 hro _ _ _)).mono ?_; rintro e w' ⟨rfl, rfl⟩)
      rw [roundsIn_succ]
      gi_wp2_with (gi_at_call 27; refine (CallsIn.inRound l (lower_in F _ h27 hro bm _ x _ km kf)).mono ?_; rintro e w' ⟨rfl, rfl⟩)
      rw [roundsIn_succ]
      gi_wp2
      have hsb : w.heap.size ≠ bm := by omega
      have hsb1 : w.heap.size + 1 ≠ bm := by omega
      exact ⟨(KeepsOthers.setCell _ _ _).from _, (Below.refl n₀ W).setCell (p := ⟨bm, 0, none⟩) hm0 _,
        ⟨fun y hy => (List.mem_append.1 hy).elim (hp y) (fun e => by simp at e; subst e; exact hx), by rw [lowest_snoc]; exact World.cell?_setCell_same' _ _ _ (by rw [km]; rfl), by rw [World.frozen?_setCell]; exact kf,
          (cell_set_other _ _ _ hsb).trans kT, (cell_set_other _ _ _ hsb1).trans kG, by rw [World.frozen?_setCell]; exact kGf, (cell_set_other _ _ _ hne).trans k0, (cell_set_other _ _ _ hne).trans k1⟩, hB.setCell (p := ⟨bm, 0, none⟩) hm0 _⟩
    · have hd : decide (0 ≤ x) = false := by simpa using hx
      have hl : ¬ ∀ y ∈ pre ++ [x], 0 ≤ y := fun h => hx (h x (by simp))
      have Hl := Lib.hid hl
      clear hl
      gi_wp2_with fail
      refine wpIn_loop_rounds 3 ?_
      rw [roundsIn_succ]
      gi_wp2_with (gi_at_call 26; refine (CallsIn.inRound l (isCount_in F _ h26 hro _ _ _)).mono ?_; rintro e w' ⟨rfl, rfl⟩)
      exact ⟨(KeepsOthers.setCell _ _ _).from _, ⟨rfl, Hl.out, World.cell?_setCell_same' _ _ _ (by rw [kG]; rfl)⟩, hB.setCell (p := ⟨w.heap.size + 1, 0, none⟩) (by simp; omega) _⟩
  case done =>
    rintro D ys W hD rfl ⟨⟨hp, km, kf, kT, kG, kGf, k0, k1⟩, hB⟩ hK
    gi_wp2
    refine ⟨by simp, .inl ⟨_, _, rfl, run_takeDeferred hK, ?_⟩⟩
    have hc5 := cell_kept km (grownBy_putObj' _ D (.deferred none)) (fun r e => by cases e; exact ⟨_, hK, rfl⟩)
    exact ⟨.bool true, by simp [results, Try.f25, go_sem], ret_bool (decide_eq_true hp).symm, fun _ => hc5, hB.trans (belowK_b (w := w) (by omega) W D _ _ (by simp at hD; omega) hK rfl rfl)⟩
  case stop =>
    rintro D c pre W hD ⟨r, rfl⟩ ⟨⟨rfl, hno, kG⟩, hB⟩ hK
    gi_wp2
    refine ⟨by simp, .inl ⟨_, _, rfl, run_takeDeferred hK, ?_⟩⟩
    have hno' : ¬ ∀ y ∈ pre ++ r, 0 ≤ y := fun h => hno (fun y hy => h y (List.mem_append.2 (.inl hy)))
    exact ⟨.bool false, by simp [results, Try.f25, go_sem], ret_bool (decide_eq_false hno').symm, fun h => absurd h hno', hB.trans (belowK_b (w := w) (by omega) W D _ _ (by simp at hD; omega) hK rfl rfl)⟩

/-- 'through', outside any fence. -/
theorem through_any (a : Option Addr) (len cap : Nat) (zs : List Int) (hreach : zs.length * 8 ≤ 140737488351232)
    (n₀ bS bm : Nat) (m : Int) (w : World) (hI : Ints n₀ w (.slice a len cap) zs) (hm0 : n₀ ≤ bm) (hmb : bm < w.heap.size) (hSb : bS < w.heap.size) (hne : bS ≠ bm)
    (hm : w.cell? ⟨bm, 0, none⟩ = some (.int .i64 m)) (hmf : w.frozen? ⟨bm, 0, none⟩ = false)
    (hs0 : w.cell? ⟨bS, 0, none⟩ = some (.func (.func 26) #[.pointer (some ⟨bm, 0, none⟩)] #[])) (hs1 : w.cell? ⟨bS, 1, none⟩ = some (.func (.func 27) #[.pointer (some ⟨bm, 0, none⟩)] #[])) :
    Calls Try.prog 25 #[.slice a len cap, .slice (some ⟨bS, 0, none⟩) 2 2] w fun e W' => e = .returned (.bool (decide (∀ x ∈ zs, 0 ≤ x))) ∧ ((∀ x ∈ zs, 0 ≤ x) → W'.cell? ⟨bm, 0, none⟩ = some (.int .i64 (lowest m zs))) ∧ Below n₀ w W' :=
  (callsIn_wide (n := 5)).1 (through_in _ 5 trivial trivial trivial trivial trivial rfl (Nat.le_refl _) a len cap zs hreach n₀ bS bm m w hI hm0 hmb hSb hne hm hmf hs0 hs1)
end Go.Proofs.Ytbdklcdecknceaa

/- Run: its contract. -/
import Derived.Test.YtephifkabpidnaaDoorF
namespace Go.Proofs.YtephifkabpidnaaDoor
open Go.RowKit Go.Shelf
attribute [local go_sem] Oper.semAt_some

section
variable {F : Fence} {n : Nat} {P : Program} {b : Frame} {a : Act} {k : List Item} {cs : List Frame} {w : World} {Q : Exit → Act → World → Prop}

theorem stepR_scope {c : Code} : step P (lone (b.atR a (.code (.scope c) :: k)) cs w) = .next (lone (b.atR a (.code c :: .inScope c :: k)) cs w) :=
  step_lone_go (by simp [stepG, stepG.exec, Frame.atR])
theorem stepR_inScope {c : Code} : step P (lone (b.atR a (.inScope c :: k)) cs w) = .next (lone (b.atR a k) cs w) :=
  step_lone_go (by simp [stepG, stepG.exec, Frame.atR])

/-- A scope through which the run goes without a goto, inside a fence. -/
theorem wpIn_scope_straight {c : Code} (h : c.wpIn F n P (Exit.noGoto Q) a w) : (Code.scope c).wpIn F n P Q a w := by
  intro b k cs hro hb hr
  have h0 : (lone (b.atR a (.code (.scope c) :: k)) cs w).fenced P F := fenced_calm hb hr rfl
  obtain ⟨e, a₁, w₁, hq, harr⟩ := h b (.inScope c :: k) cs hro hb hr
  cases e with
  | normal => exact ⟨.normal, a₁, w₁, hq, .head h0 stepR_scope (StepsIn.trans harr (.one (fenced_calm hb hr rfl) stepR_inScope))⟩
  | exit id =>
    have hx : exitTo id (.inScope c :: k) = exitTo id k := by simp [exitTo]
    exact ⟨.exit id, a₁, w₁, hq, fun k' hk => .head h0 stepR_scope (harr.1 k' (by rw [hx]; exact hk)),
      fun hr' hk => let ⟨k₁, h1, h2⟩ := harr.2 hr' (by rw [hx]; exact hk); ⟨k₁, h1, .head h0 stepR_scope h2⟩⟩
  | goto l => exact hq.elim
  | ret => exact ⟨_, a₁, w₁, hq, .of_steps (.one h0 stepR_scope) harr⟩
  | panic ch => exact ⟨_, a₁, w₁, hq, .of_steps (.one h0 stepR_scope) harr⟩
  | outgrown => exact ⟨_, a₁, w₁, hq, .of_steps (.one h0 stepR_scope) harr⟩
end

set_option maxRecDepth 100000 in
set_option maxHeartbeats 2000000 in
theorem run_no (s : Int) (v : Value) (w : World) (hs : isSt s = false) : Calls Tryd.prog 14 #[.int .i64 s, v] w fun x w' => x = .returned (.tuple #[.int .i64 0, .int .i64 0, .int .i64 2]) ∧ Below w.heap.size w w' := by
  have c := fun W => isState_c s W
  rw [hs] at c
  have H := Lib.hid c
  clear c hs
  go_enter Tryd.func14, Tryd.ntmps14
  go_wp2
  refine wp_scope_straight ?_
  go_wp2_with (go_at_call 29; refine (H.out _).mono ?_; rintro x w' ⟨rfl, rfl⟩)
  rw [Exit.noGoto_ret]
  exact bodyPost_ret (v := .tuple #[.int .i64 0, .int .i64 0, .int .i64 2]) (by simp [results, Tryd.results14, go_sem]) rfl ⟨rfl, below_alloc _ _⟩

/-- Where the walk stands. -/
structure At (b n₀ : Nat) (w : World) (s : Int) (n : Nat) (W : World) : Prop where
  c0 : W.cell? ⟨b, 0, none⟩ = some (.int .i64 s)
  c1 : W.cell? ⟨b, 1, none⟩ = some (.int .i64 n)
  f0 : W.frozen? ⟨b, 0, none⟩ = false
  f1 : W.frozen? ⟨b, 1, none⟩ = false
  b : Below n₀ w W
theorem ownFrom_at {β : Type} {b n₀ B : Nat} {w : World} {s : β → Int} {n : β → Nat} (hn : n₀ ≤ b) (hb : n₀ ≤ B) : OwnFrom B (fun (x : β) W => At b n₀ w (s x) (n x) W) := fun _ W _ _ h hg hr =>
  ⟨cell_kept h.c0 hg (fun r e => (hr r e).2), cell_kept h.c1 hg (fun r e => (hr r e).2), (frozen_kept h.c0 hg (fun r e => (hr r e).2)).trans h.f0, (frozen_kept h.c1 hg (fun r e => (hr r e).2)).trans h.f1,
    h.b.grown hg (by have := blt h.c0; omega) (fun j hj => by have := (hr j hj).1; omega)⟩
theorem At.on {b n₀ : Nat} {w W W' : World} {s : Int} {n : Nat} (h : At b n₀ w s n W) (hn : n₀ ≤ b) (k : Below W.heap.size W W') : At b n₀ w s n W' :=
  have hb := blt h.c0
  ⟨(k.cell (p := ⟨b, 0, none⟩) hb).trans h.c0, (k.cell (p := ⟨b, 1, none⟩) hb).trans h.c1, (k.frozen (p := ⟨b, 0, none⟩) hb).trans h.f0, (k.frozen (p := ⟨b, 1, none⟩) hb).trans h.f1, h.b.trans (k.mono (by omega))⟩
theorem At.step {b n₀ : Nat} {w W : World} {s : Int} {n : Nat} (h : At b n₀ w s n W) (hn : n₀ ≤ b) (v u : Int) {s' : Int} {n' : Nat} (hv : v = s') (hu : u = n') : At b n₀ w s' n' ((W.setCell ⟨b, 0, none⟩ (.int .i64 v)).setCell ⟨b, 1, none⟩ (.int .i64 u)) := by
  subst hv hu
  have c0 := h.c0
  have c1 := h.c1
  have f0 := h.f0
  have f1 := h.f1
  exact ⟨by go_simp, by go_simp, by go_simp, by go_simp, (h.b.setCell (p := ⟨b, 0, none⟩) hn _).setCell (p := ⟨b, 1, none⟩) hn _⟩
theorem run_stop {s : Int} {q : List Int} (hq : cnt s q = q.length) {x : Int} (hx : goes (run s q) x = false) (r : List Int) : run s (q ++ [x] ++ r) = run s q ∧ cnt s (q ++ [x] ++ r) = q.length := by
  rw [List.append_assoc, run_append, cnt_append, if_pos hq, if_pos hq]
  simp [run, cnt, hx]

set_option maxRecDepth 100000 in
set_option maxHeartbeats 2000000 in
theorem run_in (s : Int) (a : Option Addr) (cap : Nat) (l : List Int) (hl : l.length ≤ 1000) (w : World) (hs : isSt s = true) (hI : IntsAt w.heap.size w a l) :
    CallsIn Fence.wide 5 Tryd.prog 14 #[.int .i64 s, .slice a l.length cap] w fun x w' => x = .returned (.tuple #[.int .i64 (run s l), .int .i64 (cnt s l), .int .i64 0]) ∧ Below w.heap.size w w' := by
  have c := fun W => isState_c s W
  rw [hs] at c
  have H := Lib.hid c
  have HI := Lib.hid hI
  have hS1 := values_stops Fence.wide 4 trivial rfl (by omega)
  have HS1 := Lib.hid hS1
  clear c hs hI hS1
  have h29 : Fence.wide.fn 29 := trivial
  have h30 : Fence.wide.fn 30 := trivial
  have h31 : Fence.wide.fn 31 := trivial
  generalize hL : l.length = L at *
  refine callsIn_of_wp_marks Tryd.func14 rfl trivial ?_ rfl
  simp only [Tryd.ntmps14, List.size_toArray, List.length_cons, List.length_nil, Nat.reduceAdd, Nat.reduceSub, Array.replicate_succ, Array.replicate_zero, List.push_toArray, List.append_toArray, List.nil_append, List.cons_append]
  gi_wp2
  refine wpIn_scope_straight ?_
  gi_wp2_with (gi_at_call 29; refine (callsIn_wide.2 (H.out _)).mono ?_; rintro x w' ⟨rfl, rfl⟩)
  refine wpIn_label ?_
  gi_wp2_with (gi_at_call 30; refine (values_in Fence.wide _ trivial rfl _ _ _ _).mono ?_; rintro e w' ⟨rfl, rfl⟩)
  rename_i K hK
  have bV : Below w.heap.size w ((w.alloc (Obj.cells #[.int .i64 s, .int .i64 0] 48)).alloc (Obj.cells #[.slice a L cap] 22)) := bal (below_alloc _ _) _
  have t0 : ((w.alloc (Obj.cells #[.int .i64 s, .int .i64 0] 48)).alloc (Obj.cells #[.slice a L cap] 22)).cell? ⟨w.heap.size + 1, 0, none⟩ = some (.slice a L cap) := by go_simp
  have c0 : ((w.alloc (Obj.cells #[.int .i64 s, .int .i64 0] 48)).alloc (Obj.cells #[.slice a L cap] 22)).cell? ⟨w.heap.size, 0, none⟩ = some (.int .i64 s) := by go_simp
  have c1 : ((w.alloc (Obj.cells #[.int .i64 s, .int .i64 0] 48)).alloc (Obj.cells #[.slice a L cap] 22)).cell? ⟨w.heap.size, 1, none⟩ = some (.int .i64 0) := by go_simp
  have f0 : ((w.alloc (Obj.cells #[.int .i64 s, .int .i64 0] 48)).alloc (Obj.cells #[.slice a L cap] 22)).frozen? ⟨w.heap.size, 0, none⟩ = false := by go_simp
  have f1 : ((w.alloc (Obj.cells #[.int .i64 s, .int .i64 0] 48)).alloc (Obj.cells #[.slice a L cap] 22)).frozen? ⟨w.heap.size, 1, none⟩ = false := by go_simp
  have hz : ((w.alloc (Obj.cells #[.int .i64 s, .int .i64 0] 48)).alloc (Obj.cells #[.slice a L cap] 22)).heap.size = w.heap.size + 2 := by simp
  generalize hB : w.heap.size = B at *
  generalize ((w.alloc (Obj.cells #[Value.int .i64 s, Value.int .i64 0] 48)).alloc (Obj.cells #[Value.slice a L cap] 22)) = V at *
  have hat : At B B w s 0 V := ⟨c0, by simpa using c1, f0, f1, bV⟩
  clear c0 c1 f0 f1
  suffices hk : ∀ D (m : Nat) (t : Int) W, B + 2 ≤ D → W.heap[D]? = some (.deferred (some [])) → run s l = t → cnt s l = m → At B B w t m W →
      K { tmps := #[.int .i64 s, .slice a L cap, undef, undef, .int .i64 0, .int .i64 0, .int .i64 0, .pointer (some ⟨B, 0, none⟩), undef, .int .i64 s, .agg #[.int .i64 s, .int .i64 0], .pointer (some ⟨B, 0, none⟩), .int .i64 s, .bool true, .bool false, .slice a L cap,
        .func (.func 42) #[] #[.pointer (some ⟨B + 1, 0, none⟩)], undef, undef, undef, undef, undef, undef, undef, undef], defers := [{ target := .collected D, args := #[] }] } W by
    refine wpIn_rangeFunc_ownG rfl (by omega) (gf := 42) (lb := #[.pointer (some ⟨B + 1, 0, none⟩)]) rfl trivial (enters_of Tryd.func42 (by kernel_rfl) rfl)
      (HS1.out (B + 1) B a cap l (by omega) V (by omega) (by rw [hL]; exact t0) (HI.out.below bV)) belowK_t (belowK_b (by omega)) (Below.refl _ _) (fun _ => rfl)
      (fun pre W => cnt s pre = pre.length ∧ At B B w (run s pre) pre.length W)
      (fun c pre W => c = .exit 0 ∧ ∃ q x, pre = q ++ [x] ∧ cnt s q = q.length ∧ goes (run s q) x = false ∧ At B B w (run s q) q.length W)
      (fun pre W W' row h hg hr => ⟨h.1, ownFrom_at (s := fun p : List Int => run s p) (n := List.length) (Nat.le_refl _) (by omega) pre W W' row h.2 hg hr⟩)
      (fun c pre W W' row ⟨h1, q, x, h2, h3, h4, h5⟩ hg hr => ⟨h1, q, x, h2, h3, h4, ownFrom_at (s := fun p : List Int => run s p) (n := List.length) (Nat.le_refl _) (by omega) q W W' row h5 hg hr⟩)
      ⟨rfl, hat⟩
      (fun x => { tmps := #[.int .i64 s, .slice a L cap, undef, undef, .int .i64 0, .int .i64 0, .int .i64 0, .pointer (some ⟨B, 0, none⟩), .int .i64 x, .int .i64 s, .agg #[.int .i64 s, .int .i64 0], .pointer (some ⟨B, 0, none⟩), .int .i64 s, .bool true, .bool false, .slice a L cap,
        .func (.func 42) #[] #[.pointer (some ⟨B + 1, 0, none⟩)], .int .i64 x, undef, undef, undef, undef, undef, undef, undef], defers := [] }) ?assign ?body ?done ?stop
    case assign =>
      intro l' x W K' hK'
      gi_wp2
      exact hK'
    case body =>
      rintro l' pre x W ⟨hq, g⟩ hlt
      have hpl : pre.length ≤ 1000 := by omega
      have HQ := Lib.hid hq
      have G := Lib.hid g
      cases hg : goes (run s pre) x with
      | false =>
        have HS := Lib.hid (step_no (run s pre) x B W hg g.c0)
        have HG := Lib.hid hg
        clear hq g hg hat t0 bV hk
        gi_wp2_with (gi_at_call 31; refine (CallsIn.inRound l' (callsIn_wide.2 HS.out)).mono ?_; rintro e w1 ⟨rfl, hb1⟩)
        exact ⟨(keeps_of_below hb1).from _, rfl, pre, x, rfl, HQ.out, HG.out, G.out.on (Nat.le_refl _) hb1⟩
      | true =>
        have HS := Lib.hid (step_yes (run s pre) x pre.length B hpl W hg g.c0 g.c1 g.f0 g.f1)
        have HG := Lib.hid hg
        clear hq g hg hat t0 bV hk
        gi_wp2_with (gi_at_call 31; refine (CallsIn.inRound l' (callsIn_wide.2 HS.out)).mono ?_; rintro e w2 ⟨rfl, w1, hb1, rfl⟩)
        exact ⟨((keeps_of_below hb1).trans ((KeepsOthers.setCell _ _ _).trans (KeepsOthers.setCell _ _ _))).from _, ((hb1.mono (show B ≤ W.heap.size by have := blt G.out.c0; omega)).setCell (p := ⟨B, 0, none⟩) (Nat.le_refl _) _).setCell (p := ⟨B, 1, none⟩) (Nat.le_refl _) _,
          by rw [cnt_append, if_pos HQ.out]; simp [cnt, HG.out], (G.out.on (Nat.le_refl _) hb1).step (Nat.le_refl _) _ _ (by rw [run_append, if_pos HQ.out]; simp [run, HG.out]) (by simp)⟩
    case done =>
      rintro D ys W hD rfl ⟨hq, g⟩ hdef
      exact hk D ys.length (run s ys) W (by omega) hdef rfl hq g
    case stop =>
      rintro D c pre W hD ⟨r, hpre⟩ ⟨rfl, q, x, rfl, hq, hx, g⟩ hdef
      obtain ⟨e1, e2⟩ := run_stop hq hx r
      rw [hpre] at e1 e2
      have := hk D q.length (run s q) W (by omega) hdef e1 e2 g
      gi_wp2
      exact this
  intro D m t W hD hdef hr hc g
  refine hK _ _ ?_
  have k0 := g.c0
  have k1 := g.c1
  have G := Lib.hid g
  have HD := Lib.hid hdef
  have HR := Lib.hid hr
  have HC := Lib.hid hc
  clear g t0 hat bV hr hc
  gi_wp2_with fail
  gi_quiet (fail)
  gi_wp2
  refine ⟨by simp, .inl ⟨_, _, rfl, run_takeDeferred HD.out, ?_⟩⟩
  exact ⟨.tuple #[.int .i64 t, .int .i64 m, .int .i64 0], by simp [results, Tryd.results14, go_sem], by rw [HR.out, HC.out], (below_drewN (G.out.b.mono (Nat.le_of_eq hB)) _).trans (belowK_b (w := w) (Nat.le_refl _) (W.drewN _) D _ _ (by omega) HD.out rfl rfl)⟩

end Go.Proofs.YtephifkabpidnaaDoor

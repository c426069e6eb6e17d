/- Least: its contract. -/
import Derived.Test.YtephifkabpidnaaDoorKA
namespace Go.Proofs.YtephifkabpidnaaDoor
open Go.RowKit Go.Shelf
attribute [local go_sem] Oper.semAt_some

theorem reached_c (s : Int) (w : World) : Calls Tryd.prog 32 #[.int .i64 s] w fun x w' => x = .returned (.func (.func 43) #[] #[.pointer (some ⟨w.heap.size, 0, none⟩)]) ∧ w' = w.alloc (.cells #[.int .i64 s] 37) := by
  go_enter Tryd.func32, Tryd.ntmps32
  go_wp2
  go_ret
  exact ⟨rfl, rfl⟩

set_option maxRecDepth 100000 in
theorem least_no (s t : Int) (w : World) (hs : isSt s = false) : Calls Tryd.prog 16 #[.int .i64 s, .int .i64 t] w fun x w' => x = .returned (.tuple #[.int .i64 0, .bool false]) ∧ Below w.heap.size w w' := by
  have c := fun W => isState_c s W
  rw [hs] at c
  have H := Lib.hid c
  clear c hs
  go_enter Tryd.func16, Tryd.ntmps16
  go_wp2
  refine wp_scope_straight ?_
  go_wp2_with (go_at_call 29; refine (H.out _).mono ?_; rintro x w' ⟨rfl, rfl⟩)
  rw [Exit.noGoto_ret]
  exact bodyPost_ret (v := .tuple #[.int .i64 0, .bool false]) (by simp [results, Tryd.results16, go_sem]) rfl ⟨rfl, below_alloc _ _⟩

theorem far_append (q r : List (Int × Int)) (t : Int) : far (q ++ r) t = (far q t).or (far r t) := by
  induction q with
  | nil => simp [far]
  | cons x q ih =>
    obtain ⟨y, n⟩ := x
    simp only [List.cons_append, far]
    split
    · simp
    · exact ih

/-- Where the walk stands: what is looked for, what was found. -/
structure AtL (b n₀ : Nat) (w : World) (t m : Int) (f : Bool) (W : World) : Prop where
  c0 : W.cell? ⟨b, 0, none⟩ = some (.int .i64 t)
  c1 : W.cell? ⟨b + 1, 0, none⟩ = some (.int .i64 m)
  c2 : W.cell? ⟨b + 2, 0, none⟩ = some (.bool f)
  f1 : W.frozen? ⟨b + 1, 0, none⟩ = false
  f2 : W.frozen? ⟨b + 2, 0, none⟩ = false
  b : Below n₀ w W
theorem AtL.kept {b n₀ B : Nat} {w : World} {t m : Int} {f : Bool} (hn : n₀ ≤ b) (hB : b + 3 ≤ B) {A A' : World} {row : Option Nat} (h : AtL b n₀ w t m f A) (g : A.grownBy A' row) (hr : ∀ r, row = some r → B ≤ r) : AtL b n₀ w t m f A' := by
  have k : ∀ j, j < B → j < A.heap.size → A'.heap[j]? = A.heap[j]? := fun j hj hj' => g.block j hj' (fun e => by have := hr _ e.symm; omega)
  have z0 := blt h.c0
  have z1 := blt h.c1
  have z2 := blt h.c2
  exact ⟨(World.cell?_of_block (k b (by omega) z0)).trans h.c0, (World.cell?_of_block (k (b + 1) (by omega) z1)).trans h.c1, (World.cell?_of_block (k (b + 2) (by omega) z2)).trans h.c2,
    (World.frozen?_of_block (k (b + 1) (by omega) z1)).trans h.f1, (World.frozen?_of_block (k (b + 2) (by omega) z2)).trans h.f2, h.b.grown g (by omega) (fun j hj => by have := hr j hj; omega)⟩
theorem AtL.step {b n₀ : Nat} {w W : World} {t m : Int} {f : Bool} (h : AtL b n₀ w t m f W) (hn : n₀ ≤ b) (u : Int) : AtL b n₀ w t u true ((W.setCell ⟨b + 1, 0, none⟩ (.int .i64 u)).setCell ⟨b + 2, 0, none⟩ (.bool true)) := by
  have c0 := h.c0
  have c1 := h.c1
  have c2 := h.c2
  have f1 := h.f1
  have f2 := h.f2
  exact ⟨by go_simp, by go_simp, by go_simp, by go_simp, by go_simp, (h.b.setCell (p := ⟨b + 1, 0, none⟩) (by show n₀ ≤ b + 1; omega) _).setCell (p := ⟨b + 2, 0, none⟩) (by show n₀ ≤ b + 2; omega) _⟩

set_option maxRecDepth 100000 in
set_option maxHeartbeats 2000000 in
theorem least_in (s t : Int) (w : World) (hs : isSt s = true) :
    CallsIn Fence.wide 5 Tryd.prog 16 #[.int .i64 s, .int .i64 t] w fun x w' => x = .returned (.tuple #[.int .i64 (leastN s t), .bool (leastB s t)]) ∧ Below w.heap.size w w' := by
  have c := fun W => isState_c s W
  rw [hs] at c
  have H := Lib.hid c
  have H32 := Lib.hid (fun W => reached_c s W)
  have HT := Lib.hid (fun Bs W h => reached1_tells 4 Bs s (by omega) hs W h)
  clear c hs
  have h29 : Fence.wide.fn 29 := trivial
  have h32 : Fence.wide.fn 32 := trivial
  refine callsIn_of_wp_marks Tryd.func16 rfl trivial ?_ rfl
  simp only [Tryd.ntmps16, List.size_toArray, List.length_cons, List.length_nil, Nat.reduceAdd, Nat.reduceSub, Array.replicate_succ, Array.replicate_zero, List.push_toArray, List.append_toArray, List.nil_append, List.cons_append]
  gi_wp2
  refine wpIn_scope_straight ?_
  gi_wp2_with (gi_at_call 29; refine (callsIn_wide.2 (H.out _)).mono ?_; rintro x w' ⟨rfl, rfl⟩)
  refine wpIn_label ?_
  gi_wp2_with (gi_at_call 32; refine (callsIn_wide.2 (H32.out _)).mono ?_; rintro e w' ⟨rfl, rfl⟩)
  rename_i K hK
  have bV : Below w.heap.size w ((((w.alloc (Obj.cells #[.int .i64 t] 3)).alloc (Obj.cells #[.int .i64 0] 3)).alloc (Obj.cells #[.bool false] 4)).alloc (Obj.cells #[.int .i64 s] 37)) := bal (bal (bal (below_alloc _ _) _) _) _
  have c0 : ((((w.alloc (Obj.cells #[.int .i64 t] 3)).alloc (Obj.cells #[.int .i64 0] 3)).alloc (Obj.cells #[.bool false] 4)).alloc (Obj.cells #[.int .i64 s] 37)).cell? ⟨w.heap.size, 0, none⟩ = some (.int .i64 t) := by go_simp
  have c1 : ((((w.alloc (Obj.cells #[.int .i64 t] 3)).alloc (Obj.cells #[.int .i64 0] 3)).alloc (Obj.cells #[.bool false] 4)).alloc (Obj.cells #[.int .i64 s] 37)).cell? ⟨w.heap.size + 1, 0, none⟩ = some (.int .i64 0) := by go_simp
  have c2 : ((((w.alloc (Obj.cells #[.int .i64 t] 3)).alloc (Obj.cells #[.int .i64 0] 3)).alloc (Obj.cells #[.bool false] 4)).alloc (Obj.cells #[.int .i64 s] 37)).cell? ⟨w.heap.size + 1 + 1, 0, none⟩ = some (.bool false) := by go_simp
  have c3 : ((((w.alloc (Obj.cells #[.int .i64 t] 3)).alloc (Obj.cells #[.int .i64 0] 3)).alloc (Obj.cells #[.bool false] 4)).alloc (Obj.cells #[.int .i64 s] 37)).cell? ⟨w.heap.size + 1 + 1 + 1, 0, none⟩ = some (.int .i64 s) := by go_simp
  have f1 : ((((w.alloc (Obj.cells #[.int .i64 t] 3)).alloc (Obj.cells #[.int .i64 0] 3)).alloc (Obj.cells #[.bool false] 4)).alloc (Obj.cells #[.int .i64 s] 37)).frozen? ⟨w.heap.size + 1, 0, none⟩ = false := by go_simp
  have f2 : ((((w.alloc (Obj.cells #[.int .i64 t] 3)).alloc (Obj.cells #[.int .i64 0] 3)).alloc (Obj.cells #[.bool false] 4)).alloc (Obj.cells #[.int .i64 s] 37)).frozen? ⟨w.heap.size + 1 + 1, 0, none⟩ = false := by go_simp
  have hz : ((((w.alloc (Obj.cells #[.int .i64 t] 3)).alloc (Obj.cells #[.int .i64 0] 3)).alloc (Obj.cells #[.bool false] 4)).alloc (Obj.cells #[.int .i64 s] 37)).heap.size = w.heap.size + 4 := by simp
  generalize hB : w.heap.size = B at *
  generalize ((((w.alloc (Obj.cells #[Value.int .i64 t] 3)).alloc (Obj.cells #[Value.int .i64 0] 3)).alloc (Obj.cells #[Value.bool false] 4)).alloc (Obj.cells #[Value.int .i64 s] 37)) = V at *
  have hat : AtL B B w t 0 false V := ⟨c0, c1, c2, f1, f2, bV⟩
  clear c0 c1 c2 f1 f2 bV
  suffices hk : ∀ D (m : Int) (f : Bool) W, B + 4 ≤ D → W.heap[D]? = some (.deferred (some [])) → leastN s t = m → leastB s t = f → AtL B B w t m f W →
      K { tmps := #[.int .i64 s, .int .i64 t, undef, .pointer (some ⟨B, 0, none⟩), .int .i64 0, .bool false, .pointer (some ⟨B + 1, 0, none⟩), .pointer (some ⟨B + 1 + 1, 0, none⟩), undef, undef, .int .i64 s, .bool true, .bool false, .int .i64 s,
        .func (.func 43) #[] #[.pointer (some ⟨B + 1 + 1 + 1, 0, none⟩)], undef, undef, undef, undef, undef, undef, undef, undef], defers := [{ target := .collected D, args := #[] }] } W by
    refine wpIn_range_tells rfl (by omega) (gf := 43) (lb := #[.pointer (some ⟨B + 1 + 1 + 1, 0, none⟩)]) rfl trivial (enters_of Tryd.func43 (by kernel_rfl) rfl)
      (HT.out _ V c3) (fun _ => rfl)
      (fun pre W => far pre t = none ∧ AtL B B w t 0 false W)
      (fun pre W => ∃ q m, pre = q ++ [(t, m)] ∧ far q t = none ∧ AtL B B w t m true W)
      0
      (fun pre A A' row h hg hr => ⟨h.1, h.2.kept (Nat.le_refl _) (by omega) hg hr⟩)
      (fun pre A A' row ⟨q, m, h1, h2, h3⟩ hg hr => ⟨q, m, h1, h2, h3.kept (Nat.le_refl _) (by omega) hg hr⟩)
      ⟨rfl, hat⟩
      (fun x => { tmps := #[.int .i64 s, .int .i64 t, undef, .pointer (some ⟨B, 0, none⟩), .int .i64 0, .bool false, .pointer (some ⟨B + 1, 0, none⟩), .pointer (some ⟨B + 1 + 1, 0, none⟩), .int .i64 x.1, .int .i64 x.2, .int .i64 s, .bool true, .bool false, .int .i64 s,
        .func (.func 43) #[] #[.pointer (some ⟨B + 1 + 1 + 1, 0, none⟩)], .int .i64 x.1, .int .i64 x.2, undef, undef, undef, undef, undef, undef], defers := [] }) ?assign ?body ?done ?stop
    case assign =>
      intro l' x W K' hK'
      gi_wp2
      exact hK'
    case body =>
      rintro l' pre ⟨x, m⟩ W ⟨hq, g⟩
      have k0 := g.c0
      have k1 := g.c1
      have k2 := g.c2
      have g1 := g.f1
      have g2 := g.f2
      have G := Lib.hid g
      have HQ := Lib.hid hq
      clear g hq hat hk hK
      by_cases hx : x = t
      · subst hx
        gi_wp2
        exact ⟨(KeepsOthers.setCell _ _ _).trans (KeepsOthers.setCell _ _ _), pre, m, ⟨rfl, rfl⟩, HQ.out, G.out.step (Nat.le_refl _) m⟩
      · have hd : (x == t) = false := by simpa using hx
        gi_wp2
        exact ⟨by rw [far_append, HQ.out]; simp [far, hx], G.out⟩
    case done =>
      rintro D xs W hD rfl ⟨hq, g⟩ hdef
      exact hk D 0 false W (by omega) hdef (by unfold leastN; rw [hq]; rfl) (by unfold leastB; rw [hq]; rfl) g
    case stop =>
      rintro D pre W hD ⟨r, hpre⟩ ⟨q, m, rfl, hq, g⟩ hdef
      have hfar : far (reach s) t = some m := by rw [← hpre, List.append_assoc, far_append, hq]; simp [far]
      have := hk D m true W (by omega) hdef (by unfold leastN; rw [hfar]; rfl) (by unfold leastB; rw [hfar]; rfl) g
      gi_wp2
      exact this
  intro D m f W hD hdef hr hc g
  refine hK _ _ ?_
  have k1 := g.c1
  have k2 := g.c2
  have G := Lib.hid g
  have HD := Lib.hid hdef
  have HR := Lib.hid hr
  have HC := Lib.hid hc
  clear g hat hr hc
  gi_wp2_with fail
  gi_quiet (fail)
  gi_wp2
  refine ⟨by simp, .inl ⟨_, _, rfl, run_takeDeferred HD.out, ?_⟩⟩
  exact ⟨.tuple #[.int .i64 m, .bool f], by simp [results, Tryd.results16, go_sem], by rw [HR.out, HC.out], (below_drewN (G.out.b.mono (Nat.le_of_eq hB)) _).trans (belowK_b (w := w) (Nat.le_refl _) (W.drewN _) D _ _ (by omega) HD.out rfl rfl)⟩
end Go.Proofs.YtephifkabpidnaaDoor

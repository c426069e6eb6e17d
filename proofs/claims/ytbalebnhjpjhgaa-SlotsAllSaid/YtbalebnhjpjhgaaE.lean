/- hasFree: its contract. -/
import Derived.Test.YtbalebnhjpjhgaaD
namespace Go.Proofs.Ytbalebnhjpjhgaa
open Go.RowKit Go.Shelf
attribute [local go_sem] Oper.semAt_some

section
variable {F : Fence} {n : Nat} {P : Program} {b : Frame} {a : Act} {k : List Item} {cs : List Frame} {w : World} {Q : Exit → Act → World → Prop}

theorem stepR_scope {c : Code} : step P (lone (b.atR a (.code (.scope c) :: k)) cs w) = .next (lone (b.atR a (.code c :: .inScope c :: k)) cs w) :=
  step_lone_go (by simp [stepG, stepG.exec, Frame.atR])
theorem stepR_inScope {c : Code} : step P (lone (b.atR a (.inScope c :: k)) cs w) = .next (lone (b.atR a k) cs w) :=
  step_lone_go (by simp [stepG, stepG.exec, Frame.atR])

/-- A scope through which the run goes without a goto, inside a fence. -/
theorem wpIn_scope_straight {c : Code} (h : c.wpIn F n P (Exit.noGoto Q) a w) : (Code.scope c).wpIn F n P Q a w := by
  intro b k cs hro hb hr
  have h0 : (lone (b.atR a (.code (.scope c) :: k)) cs w).fenced P F := fenced_calm hb hr rfl
  obtain ⟨e, a₁, w₁, hq, harr⟩ := h b (.inScope c :: k) cs hro hb hr
  cases e with
  | normal => exact ⟨.normal, a₁, w₁, hq, .head h0 stepR_scope (StepsIn.trans harr (.one (fenced_calm hb hr rfl) stepR_inScope))⟩
  | exit id =>
    have hx : exitTo id (.inScope c :: k) = exitTo id k := by simp [exitTo]
    exact ⟨.exit id, a₁, w₁, hq, fun k' hk => .head h0 stepR_scope (harr.1 k' (by rw [hx]; exact hk)),
      fun hr' hk => let ⟨k₁, h1, h2⟩ := harr.2 hr' (by rw [hx]; exact hk); ⟨k₁, h1, .head h0 stepR_scope h2⟩⟩
  | goto l => exact hq.elim
  | ret => exact ⟨_, a₁, w₁, hq, .of_steps (.one h0 stepR_scope) harr⟩
  | panic ch => exact ⟨_, a₁, w₁, hq, .of_steps (.one h0 stepR_scope) harr⟩
  | outgrown => exact ⟨_, a₁, w₁, hq, .of_steps (.one h0 stepR_scope) harr⟩
end


theorem taken_stops (F : Fence) (n : Nat) (h46 : F.fn 46) (h40 : F.fn 40) (hro : F.round = none) (hn : 2 ≤ n) (Bs n₀ : Nat) (a1 a2 : Option Addr) (s3 : Value) (c1 c2 : Nat) (gs : List Int) (us : List Bool) (hlu : us.length = gs.length) (hlen : gs.length ≤ 1000) (w : World) (hn₀ : n₀ ≤ w.heap.size)
    (hB0 : w.cell? ⟨Bs, 0, none⟩ = some (.slice a1 gs.length c1)) (hB1 : w.cell? ⟨Bs, 1, none⟩ = some (.slice a2 us.length c2)) (hB2 : w.cell? ⟨Bs, 2, none⟩ = some s3) (hI : IntsAt n₀ w a1 gs) (hU : BoolsAt n₀ w a2 us) :
    SeqStopsK F n Try.prog 46 #[.pointer (some ⟨Bs, 0, none⟩)] (fun x : Int × Int => #[handV x]) (Kept n₀ Bs) (fun ys => ys = takenOf gs us) (fun pre => pre <+: takenOf gs us) us.length w := fun l J Jx W hW hJ _ hY h0 =>
  taken1_in F n h46 h40 hro hn l Bs n₀ a1 a2 s3 c1 c2 gs us hlu hlen J Jx W.heap.size hJ hY W (Nat.le_trans hn₀ hW.size) ((hW.cell (p := ⟨Bs, 0, none⟩) (blt hB0)).trans hB0) ((hW.cell (p := ⟨Bs, 1, none⟩) (blt hB1)).trans hB1) ((hW.cell (p := ⟨Bs, 2, none⟩) (blt hB2)).trans hB2) (hI.below (hW.mono hn₀)) (hU.below (hW.mono hn₀)) h0

/-- What holds while places are met. -/
structure Met1 (B : Nat) (w : World) (s1 s2 s3 : Value) (us : List Bool) (pre : List Int) (W : World) : Prop where
  t0 : W.cell? ⟨B, 0, none⟩ = some s1
  t1 : W.cell? ⟨B, 1, none⟩ = some s2
  t2 : W.cell? ⟨B, 2, none⟩ = some s3
  m : W.cell? ⟨B + 2, 0, none⟩ = some (.map (some (B + 1)))
  o : W.ownsMap Try.prog 3 (plainElem (H := Unit) Try.prog 4) (B + 1) pre.length (metD pre)
  f : ∀ x ∈ pre, isFree us x
  b : Below B w W
theorem ownFrom_met1 {B B' : Nat} {w : World} {s1 s2 s3 : Value} {us : List Bool} (hB : B + 3 ≤ B') : OwnFrom B' (Met1 B w s1 s2 s3 us) := fun _ _ _ _ h hg hr =>
  ⟨cell_kept h.t0 hg (fun r e => (hr r e).2), cell_kept h.t1 hg (fun r e => (hr r e).2), cell_kept h.t2 hg (fun r e => (hr r e).2), cell_kept h.m hg (fun r e => (hr r e).2), h.o.kept hg (fun e => by have := (hr _ e.symm).1; omega), h.f,
    h.b.grown hg (by have := blt h.t0; omega) (fun j hj => by have := (hr j hj).1; omega)⟩
theorem ownFrom_out1 {B B' : Nat} {w : World} {s1 s2 s3 : Value} {us : List Bool} (c : Prop) (hB : B + 3 ≤ B') : OwnFrom B' (fun pre W => c ∧ ∃ q x, pre = q ++ [x] ∧ ¬ isFree us x ∧ Met1 B w s1 s2 s3 us q W) := fun _ _ _ _ ⟨h1, q, x, h2, h3, h4⟩ hg hr =>
  ⟨h1, q, x, h2, h3, ownFrom_met1 hB _ _ _ _ h4 hg hr⟩

theorem grownBy_setCell (W : World) (b o : Nat) (v : Value) : W.grownBy (W.setCell ⟨b, o, none⟩ v) (some b) :=
  ⟨rfl, rfl, rfl, by simp [World.setCell], fun i _ hne => Below.heap_setCell _ _ _ _ (fun e => hne (congrArg some e))⟩
theorem ownFrom_heap {β : Type} {B D : Nat} {o : Obj} (h : D < B) : OwnFrom B (fun (_ : β) W => W.heap[D]? = some o) := fun _ _ _ _ hs hg hr =>
  (hg.block D (Array.getElem?_eq_some_iff.1 hs).1 (fun e => by have := (hr D e.symm).1; omega)).trans hs
/-- What holds while the others are counted. -/
structure Cnt2 (B Z : Nat) (w : World) (s1 s2 s3 : Value) (mt : List Int) (pre : List (Int × Int)) (W : World) : Prop where
  t1 : W.cell? ⟨B, 1, none⟩ = some s2
  t2 : W.cell? ⟨B, 2, none⟩ = some s3
  m : W.cell? ⟨B + 2, 0, none⟩ = some (.map (some (B + 1)))
  o : W.ownsMap Try.prog 3 (plainElem (H := Unit) Try.prog 4) (B + 1) mt.length (metD mt)
  c : W.cell? ⟨Z, 0, none⟩ = some (.int .i64 pre.length)
  f : W.frozen? ⟨Z, 0, none⟩ = false
  b : Below B w W
theorem ownFrom_cnt2 {B Z B' : Nat} {w : World} {s1 s2 s3 : Value} {mt : List Int} (hB : B + 3 ≤ B') : OwnFrom B' (Cnt2 B Z w s1 s2 s3 mt) := fun _ _ _ _ h hg hr =>
  ⟨cell_kept h.t1 hg (fun r e => (hr r e).2), cell_kept h.t2 hg (fun r e => (hr r e).2), cell_kept h.m hg (fun r e => (hr r e).2), h.o.kept hg (fun e => by have := (hr _ e.symm).1; omega), cell_kept h.c hg (fun r e => (hr r e).2), (frozen_kept h.c hg (fun r e => (hr r e).2)).trans h.f,
    h.b.grown hg (by have := blt h.t1; omega) (fun j hj => by have := (hr j hj).1; omega)⟩

/-- How the first loop ends. -/
def Ended (us : List Bool) (fs q : List Int) : Prop := (q = fs ∧ ∀ x ∈ fs, isFree us x) ∨ (q.length < fs.length ∧ ¬ ∀ x ∈ fs, isFree us x)
theorem ended_free {gs : List Int} {us : List Bool} {fs q : List Int} (h : Ended us fs q) (c : Nat) (hc : c = (takenOf gs us).length) :
    freeB gs us fs = (decide (Maps.size (metD q) = fs.length) && decide (Maps.size (metD q) + c = us.length)) := by
  unfold freeB
  rcases h with ⟨rfl, h⟩ | ⟨hl, h⟩
  · rw [Bool.eq_iff_iff]
    simp only [decide_eq_true_eq, Bool.and_eq_true]
    constructor
    · rintro ⟨_, h2, h3⟩
      have := (metD_size_eq q).2 h2
      exact ⟨this, by omega⟩
    · rintro ⟨h2, h3⟩
      exact ⟨h, (metD_size_eq q).1 h2, by omega⟩
  · have := metD_size_le q
    rw [decide_eq_false (fun x => h x.1), decide_eq_false (by omega)]
    rfl

set_option maxRecDepth 100000 in
set_option maxHeartbeats 2000000 in
theorem hasFree_in (F : Fence) (n : Nat) (h30 : F.fn 30) (h38 : F.fn 38) (h40 : F.fn 40) (h44 : F.fn 44) (h46 : F.fn 46) (h49 : F.fn 49) (hro : F.round = none) (hn : 5 ≤ n) (a1 a2 a3 : Option Addr) (c1 c2 c3 : Nat) (gs : List Int) (us : List Bool) (fs : List Int)
    (hlu : us.length = gs.length) (hlf : fs.length ≤ gs.length) (hlen : gs.length ≤ 1000) (w : World) (hI : IntsAt w.heap.size w a1 gs) (hU : BoolsAt w.heap.size w a2 us) (hF : IntsAt w.heap.size w a3 fs) :
    CallsIn F n Try.prog 30 #[tabV a1 a2 a3 c1 c2 c3 gs us fs] w fun e w' => e = .returned (.bool (freeB gs us fs)) ∧ Below w.heap.size w w' := by
  have h1 : 1 ≤ n := by omega
  have hmm := @run_makeMap Try.prog
  unfold tabV
  have hS2 := taken_stops F (n - 1) h46 h40 hro (by omega)
  have hS1 := values_stops F (n - 1) h49 hro (by omega)
  have HI := Lib.hid hI
  have HU := Lib.hid hU
  have HF := Lib.hid hF
  have HS1 := Lib.hid hS1
  have HS2 := Lib.hid hS2
  clear hI hU hF hS1 hS2
  generalize hL : gs.length = L at *
  generalize hM : fs.length = M at *
  rw [hlu]
  refine callsIn_of_wp_marks Try.func30 rfl h30 ?_ hro
  simp only [Try.ntmps30, List.size_toArray, List.length_cons, List.length_nil, Nat.reduceAdd, Nat.reduceSub, Array.replicate_succ, Array.replicate_zero, List.push_toArray, List.append_toArray, List.nil_append, List.cons_append]
  gi_wp2
  refine wpIn_scope_straight ?_
  gi_wp2
  refine wpIn_label ?_
  gi_wp2_with (gi_at_call 44; refine (values_in F (n - 1) h44 hro _ _ _ _).mono ?_; rintro e w' ⟨rfl, rfl⟩)
  rename_i K hK
  generalize hB : w.heap.size = B at *
  have hz3 : (((w.alloc (Obj.cells #[Value.slice a1 L c1, Value.slice a2 L c2, Value.slice a3 M c3] 47)).alloc (Obj.map #[] 0)).alloc (Obj.cells #[Value.map (some (B + 1))] 60)).heap.size = B + 1 + 1 + 1 := by simp [hB]
  have bW : Below B w ((((w.alloc (Obj.cells #[Value.slice a1 L c1, Value.slice a2 L c2, Value.slice a3 M c3] 47)).alloc (Obj.map #[] 0)).alloc (Obj.cells #[Value.map (some (B + 1))] 60)).alloc (Obj.cells #[Value.slice a3 M c3] 22)) :=
    ((((Below.refl B w).alloc (by omega) _).alloc (by simp; omega) _).alloc (by simp; omega) _).alloc (by simp; omega) _
  have hm0 := World.ownsMap_made (w.alloc (Obj.cells #[Value.slice a1 L c1, Value.slice a2 L c2, Value.slice a3 M c3] 47)) Try.prog 3 (plainElem (H := Unit) Try.prog 4)
  rw [World.size_alloc, hB] at hm0
  have hm1 := ((hm0.alloc (Obj.cells #[Value.map (some (B + 1))] 60)).alloc (Obj.cells #[Value.slice a3 M c3] 22))
  have t0 : ((((w.alloc (Obj.cells #[Value.slice a1 L c1, Value.slice a2 L c2, Value.slice a3 M c3] 47)).alloc (Obj.map #[] 0)).alloc (Obj.cells #[Value.map (some (B + 1))] 60)).alloc (Obj.cells #[Value.slice a3 M c3] 22)).cell? ⟨B, 0, none⟩ = some (.slice a1 L c1) := by subst hB; go_simp
  have t1 : ((((w.alloc (Obj.cells #[Value.slice a1 L c1, Value.slice a2 L c2, Value.slice a3 M c3] 47)).alloc (Obj.map #[] 0)).alloc (Obj.cells #[Value.map (some (B + 1))] 60)).alloc (Obj.cells #[Value.slice a3 M c3] 22)).cell? ⟨B, 1, none⟩ = some (.slice a2 L c2) := by subst hB; go_simp
  have t2 : ((((w.alloc (Obj.cells #[Value.slice a1 L c1, Value.slice a2 L c2, Value.slice a3 M c3] 47)).alloc (Obj.map #[] 0)).alloc (Obj.cells #[Value.map (some (B + 1))] 60)).alloc (Obj.cells #[Value.slice a3 M c3] 22)).cell? ⟨B, 2, none⟩ = some (.slice a3 M c3) := by subst hB; go_simp
  have tm : ((((w.alloc (Obj.cells #[Value.slice a1 L c1, Value.slice a2 L c2, Value.slice a3 M c3] 47)).alloc (Obj.map #[] 0)).alloc (Obj.cells #[Value.map (some (B + 1))] 60)).alloc (Obj.cells #[Value.slice a3 M c3] 22)).cell? ⟨B + 2, 0, none⟩ = some (.map (some (B + 1))) := by subst hB; go_simp
  have tv : ((((w.alloc (Obj.cells #[Value.slice a1 L c1, Value.slice a2 L c2, Value.slice a3 M c3] 47)).alloc (Obj.map #[] 0)).alloc (Obj.cells #[Value.map (some (B + 1))] 60)).alloc (Obj.cells #[Value.slice a3 M c3] 22)).cell? ⟨B + 1 + 1 + 1, 0, none⟩ = some (.slice a3 M c3) := by subst hB; go_simp
  have hzV : ((((w.alloc (Obj.cells #[Value.slice a1 L c1, Value.slice a2 L c2, Value.slice a3 M c3] 47)).alloc (Obj.map #[] 0)).alloc (Obj.cells #[Value.map (some (B + 1))] 60)).alloc (Obj.cells #[Value.slice a3 M c3] 22)).heap.size = B + 4 := by simp [hB]
  generalize ((((w.alloc (Obj.cells #[Value.slice a1 L c1, Value.slice a2 L c2, Value.slice a3 M c3] 47)).alloc (Obj.map #[] 0)).alloc (Obj.cells #[Value.map (some (B + 1))] 60)).alloc (Obj.cells #[Value.slice a3 M c3] 22)) = V at *
  suffices hk : ∀ D q W, B + 4 ≤ D → W.heap[D]? = some (.deferred (some [])) → Ended us fs q → Met1 B w (.slice a1 L c1) (.slice a2 L c2) (.slice a3 M c3) us q W →
      K { tmps := #[.agg #[.slice a1 L c1, .slice a2 L c2, .slice a3 M c3], .pointer (some ⟨B, 0, none⟩), .bool false, .pointer (some ⟨B + 1 + 1, 0, none⟩), undef, undef, .map (some (B + 1)), .pointer (some ⟨B, 0, none⟩), .pointer (some ⟨B, 2, none⟩), .slice a3 M c3,
        .func (.func 49) #[] #[.pointer (some ⟨B + 1 + 1 + 1, 0, none⟩)], undef, undef, undef, undef, undef, undef, undef, undef, undef, undef, undef, undef, undef, undef, undef, undef, undef, undef, undef, undef, undef, undef, undef, undef, undef, undef, undef, undef, undef, undef, undef, undef, undef, undef, undef, undef, undef, undef, undef, undef, undef, undef, undef, undef], defers := [{ target := .collected D, args := #[] }] } W by
    refine wpIn_rangeFunc_ownG hro h1 (gf := 49) (lb := #[.pointer (some ⟨B + 1 + 1 + 1, 0, none⟩)]) rfl h49 (enters_of Try.func49 (by kernel_rfl) rfl)
      (HS1.out (B + 1 + 1 + 1) B a3 c3 fs (by omega) V (by omega) (by rw [hM]; exact tv) (HF.out.below bW)) belowK_t (belowK_b (by omega)) (Below.refl _ _) (fun _ => rfl)
      (Met1 B w (.slice a1 L c1) (.slice a2 L c2) (.slice a3 M c3) us) (fun c pre W => c = .exit 0 ∧ ∃ q x, pre = q ++ [x] ∧ ¬ isFree us x ∧ Met1 B w (.slice a1 L c1) (.slice a2 L c2) (.slice a3 M c3) us q W)
      (ownFrom_met1 (by omega)) (fun c => ownFrom_out1 (c = .exit 0) (by omega)) ⟨t0, t1, t2, tm, hm1, by simp, bW⟩
      (fun x => { tmps := #[.agg #[.slice a1 L c1, .slice a2 L c2, .slice a3 M c3], .pointer (some ⟨B, 0, none⟩), .bool false, .pointer (some ⟨B + 1 + 1, 0, none⟩), .int .i64 x, undef, .map (some (B + 1)), .pointer (some ⟨B, 0, none⟩), .pointer (some ⟨B, 2, none⟩), .slice a3 M c3,
        .func (.func 49) #[] #[.pointer (some ⟨B + 1 + 1 + 1, 0, none⟩)], .int .i64 x, undef, undef, undef, undef, undef, undef, undef, undef, undef, undef, undef, undef, undef, undef, undef, undef, undef, undef, undef, undef, undef, undef, undef, undef, undef, undef, undef, undef, undef, undef, undef, undef, undef, undef, undef, undef, undef, undef, undef, undef, undef, undef, undef], defers := [] }) ?assign ?body ?done ?stop
    case assign =>
      intro l x W K' hK'
      gi_wp2
      exact hK'
    case body =>
      rintro l pre x W g hlt
      have kt0 := g.t0
      have kt1 := g.t1
      have kt2 := g.t2
      have km := g.m
      have ko := g.o
      have kb := g.b
      have kf := g.f
      clear t0 t1 t2 tm tv hm0 hm1 hz3 bW hk
      by_cases hx0 : x < 0
      · have hno : ¬ isFree us x := fun h => by have := h.1; omega
        have G := Lib.hid g
        have HNo := Lib.hid hno
        clear hno g
        gi_wp2
        exact ⟨KeepsFrom.refl _ _, rfl, pre, x, rfl, HNo.out, G.out⟩
      · by_cases hx1 : x < L
        · obtain ⟨k, rfl⟩ : ∃ k : Nat, x = k := ⟨x.toNat, by omega⟩
          have hkL : k < L := by omega
          obtain ⟨b, off, rfl, hb, hc⟩ := (HU.out.below kb) k (by omega)
          have hget : us[k]?.getD true = us[k] := by simp [hlu, hkL]
          cases hu : us[k] with
          | true =>
            have hno : ¬ isFree us (k : Int) := fun h => by have := h.2.2; simp [hkL, hlu, hu] at this
            have G := Lib.hid g
            have HNo := Lib.hid hno
            rw [hu] at hc
            clear hno g hget hu
            gi_wp2
            exact ⟨KeepsFrom.refl _ _, rfl, pre, k, rfl, HNo.out, G.out⟩
          | false =>
            have hyes : isFree us (k : Int) := ⟨by omega, by omega, by simp [hkL, hlu, hu]⟩
            have hwf : (Lit.int .i64 (k : Int)).wf = true := WalkArith.wf_i64 (by omega)
            have Hy := Lib.hid hyes
            have Hw := Lib.hid hwf
            have KF := Lib.hid kf
            have KB := Lib.hid kb
            rw [hu] at hc
            clear hyes hwf kf g hget hu kb
            gi_wp2_with (gi_at_mapUpdate; refine wpListIn_mapUpdate_own _ rfl _ _ _ 60 rfl 3 4 (Maps.int_keyed Try.underlying3) Try.underlying60 _ (B + 1) pre.length _ rfl ko (by unfold maxLen; omega) _ _ _ rfl rfl (Maps.keyOf_int_mk Try.underlying3 Hw.out) _ [] (plainElem_bool Try.underlying4 true) ?_; intro w1 hown1 hgrow1)
            have hzW : B ≤ W.heap.size := by have := KB.out.size; omega
            have hkeep : ∀ r, some (B + 1) = some r → ∃ o : Obj, W.heap[r]? = some o ∧ o.isCells = false := fun r e => by
              cases e
              obtain ⟨es, ck, hh, _⟩ := ko
              exact ⟨_, hh, rfl⟩
            refine ⟨KeepsFrom.of_grownBy hgrow1 (fun j e => by cases e; omega), (Below.refl _ W).grown hgrow1 hzW (fun k e => by cases e; omega), ⟨cell_kept kt0 hgrow1 hkeep, cell_kept kt1 hgrow1 hkeep, cell_kept kt2 hgrow1 hkeep, cell_kept km hgrow1 hkeep, ?_, ?_, ?_⟩⟩
            · rw [metD_snoc, List.length_append]; exact hown1
            · intro y hy
              rcases List.mem_append.1 hy with h | h
              · exact KF.out y h
              · simp at h; subst h; exact Hy.out
            · exact KB.out.grown hgrow1 hzW (fun j e => by cases e; omega)
        · have hno : ¬ isFree us x := fun h => by have := h.2.1; omega
          have G := Lib.hid g
          have HNo := Lib.hid hno
          clear hno g
          gi_wp2
          exact ⟨KeepsFrom.refl _ _, rfl, pre, x, rfl, HNo.out, G.out⟩
    case done =>
      rintro D ys W hD rfl g hdef
      exact hk D ys W (by omega) hdef (.inl ⟨rfl, g.f⟩) g
    case stop =>
      rintro D c pre W hD ⟨r, hpre⟩ ⟨rfl, q, x, rfl, hx, g⟩ hdef
      have hend : Ended us fs q := .inr ⟨by rw [← hpre]; simp, fun h => hx (h x (by rw [← hpre]; simp))⟩
      have := hk D q W (by omega) hdef hend g
      gi_wp2
      exact this
  intro D q W hD hdef hend g
  refine hK _ _ ?_
  have kt0 := g.t0
  have kt1 := g.t1
  have kt2 := g.t2
  have km := g.m
  have ko := g.o
  have kb := g.b
  have HE := Lib.hid hend
  have hz2 : B + 1 + 1 < W.heap.size := blt km
  have hz1 : B + 1 < W.heap.size := by omega
  have hz0 : B < W.heap.size := by omega
  clear g hend t0 t1 t2 tm tv hm0 hm1 hz3 bW hzV
  gi_wp2_with (gi_at_call 38; refine (taken_in F (n - 1) h38 hro _ _ _ _).mono ?_; rintro e w' ⟨rfl, rfl⟩)
  rename_i K2 hK2
  have hn1 : n - 1 - 1 + 1 = n - 1 := by omega
  have e1 : ((W.alloc (Obj.cells #[Value.int IntKind.i64 0] 3)).alloc (Obj.cells #[Value.slice a1 L c1, Value.slice a2 L c2, Value.slice a3 M c3] 47)).cell? ⟨B, 1, none⟩ = some (.slice a2 L c2) := keep_alloc _ (keep_alloc _ kt1)
  have e2 : ((W.alloc (Obj.cells #[Value.int IntKind.i64 0] 3)).alloc (Obj.cells #[Value.slice a1 L c1, Value.slice a2 L c2, Value.slice a3 M c3] 47)).cell? ⟨B, 2, none⟩ = some (.slice a3 M c3) := keep_alloc _ (keep_alloc _ kt2)
  have em : ((W.alloc (Obj.cells #[Value.int IntKind.i64 0] 3)).alloc (Obj.cells #[Value.slice a1 L c1, Value.slice a2 L c2, Value.slice a3 M c3] 47)).cell? ⟨B + 2, 0, none⟩ = some (.map (some (B + 1))) := keep_alloc _ (keep_alloc _ km)
  have eo := (ko.alloc (Obj.cells #[Value.int IntKind.i64 0] 3)).alloc (Obj.cells #[Value.slice a1 L c1, Value.slice a2 L c2, Value.slice a3 M c3] 47)
  have ec : ((W.alloc (Obj.cells #[Value.int IntKind.i64 0] 3)).alloc (Obj.cells #[Value.slice a1 L c1, Value.slice a2 L c2, Value.slice a3 M c3] 47)).cell? ⟨W.heap.size, 0, none⟩ = some (.int .i64 0) := by go_simp
  have ef : ((W.alloc (Obj.cells #[Value.int IntKind.i64 0] 3)).alloc (Obj.cells #[Value.slice a1 L c1, Value.slice a2 L c2, Value.slice a3 M c3] 47)).frozen? ⟨W.heap.size, 0, none⟩ = false := by go_simp
  have x0 : ((W.alloc (Obj.cells #[Value.int IntKind.i64 0] 3)).alloc (Obj.cells #[Value.slice a1 L c1, Value.slice a2 L c2, Value.slice a3 M c3] 47)).cell? ⟨W.heap.size + 1, 0, none⟩ = some (.slice a1 L c1) := by go_simp
  have x1 : ((W.alloc (Obj.cells #[Value.int IntKind.i64 0] 3)).alloc (Obj.cells #[Value.slice a1 L c1, Value.slice a2 L c2, Value.slice a3 M c3] 47)).cell? ⟨W.heap.size + 1, 1, none⟩ = some (.slice a2 L c2) := by go_simp
  have x2 : ((W.alloc (Obj.cells #[Value.int IntKind.i64 0] 3)).alloc (Obj.cells #[Value.slice a1 L c1, Value.slice a2 L c2, Value.slice a3 M c3] 47)).cell? ⟨W.heap.size + 1, 2, none⟩ = some (.slice a3 M c3) := by go_simp
  have eb : Below B w ((W.alloc (Obj.cells #[Value.int IntKind.i64 0] 3)).alloc (Obj.cells #[Value.slice a1 L c1, Value.slice a2 L c2, Value.slice a3 M c3] 47)) := (kb.alloc (by omega) _).alloc (by simp; omega) _
  have ed : ((W.alloc (Obj.cells #[Value.int IntKind.i64 0] 3)).alloc (Obj.cells #[Value.slice a1 L c1, Value.slice a2 L c2, Value.slice a3 M c3] 47)).heap[D]? = some (.deferred (some [])) := by
    have hD' : D < W.heap.size := (Array.getElem?_eq_some_iff.1 hdef).1
    exact (Below.heap_alloc _ _ _ (by simp; omega)).trans ((Below.heap_alloc _ _ _ hD').trans hdef)
  have ez : ((W.alloc (Obj.cells #[Value.int IntKind.i64 0] 3)).alloc (Obj.cells #[Value.slice a1 L c1, Value.slice a2 L c2, Value.slice a3 M c3] 47)).heap.size = W.heap.size + 2 := by simp
  generalize hZ : W.heap.size = Z at *
  have hDZ : D < Z := by rw [← hZ]; exact (Array.getElem?_eq_some_iff.1 hdef).1
  generalize ((W.alloc (Obj.cells #[Value.int IntKind.i64 0] 3)).alloc (Obj.cells #[Value.slice a1 L c1, Value.slice a2 L c2, Value.slice a3 M c3] 47)) = U at *
  clear kt0 kt1 kt2 km ko kb hdef
  refine wpIn_rangeFunc_ownG hro h1 (gf := 46) (lb := #[.pointer (some ⟨Z + 1, 0, none⟩)]) rfl h46 (enters_of Try.func46 (by kernel_rfl) rfl)
    (HS2.out (Z + 1) B a1 a2 (.slice a3 M c3) c1 c2 gs us (by omega) (by omega) U (by omega) (by rw [hL]; exact x0) (by rw [hlu]; exact x1) x2 (HI.out.below eb) (HU.out.below eb)) kept_t (kept_b (by omega) (by omega)) (Below.refl _ _) (fun _ => rfl)
    (fun pre W => Cnt2 B Z w (.slice a1 L c1) (.slice a2 L c2) (.slice a3 M c3) q pre W ∧ W.heap[D]? = some (.deferred (some []))) (fun _ _ _ => False)
    (OwnFrom.and (ownFrom_cnt2 (by omega)) (ownFrom_heap (by omega))) (fun _ _ _ _ _ hs _ _ => hs) ⟨⟨e1, e2, em, eo, ec, ef, eb⟩, ed⟩
    (fun x => { tmps := #[.agg #[.slice a1 L c1, .slice a2 L c2, .slice a3 M c3], .pointer (some ⟨B, 0, none⟩), .bool false, .pointer (some ⟨B + 1 + 1, 0, none⟩), undef, .pointer (some ⟨Z, 0, none⟩), .map (some (B + 1)), .pointer (some ⟨B, 0, none⟩), .pointer (some ⟨B, 2, none⟩), .slice a3 M c3,
        .func (.func 49) #[] #[.pointer (some ⟨B + 1 + 1 + 1, 0, none⟩)], undef, undef, undef, undef, undef, undef, undef, undef, undef, undef, undef, undef, undef, undef, undef, undef, undef, undef, undef, undef, undef, .agg #[.slice a1 L c1, .slice a2 L c2, .slice a3 M c3], .func (.func 46) #[] #[.pointer (some ⟨Z + 1, 0, none⟩)], handV x, undef, undef, undef, undef, undef, undef, undef, undef, undef, undef, undef, undef, undef, undef, undef, undef, undef, undef, undef, undef], defers := [] }) ?assign ?body ?done ?stop
  case assign =>
    intro l x W K' hK'
    gi_wp2
    exact hK'
  case body =>
    rintro l pre x W ⟨g, hd⟩ hlt
    have kc := g.c
    have kf := g.f
    have kb := g.b
    have hpl : (pre.length : Int) ≤ 1000 := by omega
    have G := Lib.hid g
    have HD := Lib.hid hd
    have KB := Lib.hid kb
    clear g hd kb
    gi_wp2
    have hne : Z + 1 ≠ Z := by omega
    have hz : B ≤ Z := by omega
    refine ⟨(KeepsOthers.setCell _ _ _).from _, ⟨(Below.refl B W).setCell (p := ⟨Z, 0, none⟩) hz _, Below.heap_setCell _ _ _ _ hne⟩, ⟨(set_other _ _ (by omega)).trans G.out.t1, (set_other _ _ (by omega)).trans G.out.t2, (set_other _ _ (by omega)).trans G.out.m, ?_, ?_, ?_, KB.out.setCell (p := ⟨Z, 0, none⟩) hz _⟩, ?_⟩
    · exact G.out.o.kept (grownBy_setCell _ _ _ _) (fun e => by cases e; omega)
    · rw [List.length_append]; exact World.cell?_setCell_same' _ _ _ (by rw [kc]; rfl)
    · exact (World.frozen?_setCell ..).trans kf
    · exact (Below.heap_setCell _ _ _ _ (show D ≠ Z by omega)).trans HD.out
  case done =>
    rintro D2 ys W hD2 rfl ⟨g, hd⟩ hdef2
    have kt1 := g.t1
    have kt2 := g.t2
    have km := g.m
    have ko := g.o
    have kc := g.c
    have kb := g.b
    have hl := fun ty => ko.len Try.underlying60 ty
    clear g e1 e2 em eo ec ef x0 x1 x2 eb ed
    generalize hS : Maps.size (metD q) = S at *
    have HS := Lib.hid hS
    have hmeq := ended_free HE.out (gs := gs) (takenOf gs us).length rfl
    rw [hS, hM, hlu] at hmeq
    have htl := takenUpto_length_le gs us us.length
    have htl' : (takenOf gs us).length ≤ L := by unfold takenOf; omega
    have hsl := ko.size_le
    have hql : q.length ≤ M := by rcases HE.out with ⟨rfl, _⟩ | ⟨h, _⟩ <;> omega
    generalize hT : (takenOf gs us).length = T at *
    have HQ := Lib.hid hmeq
    have s1 : IntKind.i64.wrap ((S : Int) + (T : Int)) = (S : Int) + (T : Int) := IntWalk.i64_in _ (by omega)
    have hD' : D ≠ D2 := by omega
    have hd' : (W.putObj D2 (.deferred none)).heap[D]? = some (.deferred (some [])) := (World.putObj_heap_other (by omega)).trans hd
    have hfin : Below B w ((W.putObj D2 (.deferred none)).putObj D (.deferred none)) :=
      (kb.trans (belowK_b (w := w) (by omega) W D2 _ _ (by omega) hdef2 rfl rfl)).trans (belowK_b (w := w) (by omega) (W.putObj D2 (.deferred none)) D _ _ (by omega) hd' rfl rfl)
    clear hmeq htl hT hS
    by_cases hSM : S = M
    · subst hSM
      gi_wp2
      all_goals
        refine ⟨by simp, .inl ⟨_, _, rfl, run_takeDeferred hdef2, by simp, .inl ⟨_, _, rfl, run_takeDeferred hd', ?_⟩⟩⟩
        refine ⟨.bool ((S : Int) + (T : Int) == (L : Int)), by simp [results, Try.f30, go_sem], ret_bool ?_, by rw [hB]; exact hfin⟩
        rw [HQ.out, Bool.eq_iff_iff]
        simp only [beq_iff_eq, decide_eq_true_eq, Bool.and_eq_true, true_and]
        omega
    · have hSM' : ¬ ((S : Int) = (M : Int)) := by omega
      gi_wp2
      all_goals
        refine ⟨by simp, .inl ⟨_, _, rfl, run_takeDeferred hdef2, by simp, .inl ⟨_, _, rfl, run_takeDeferred hd', ?_⟩⟩⟩
        refine ⟨.bool false, by simp [results, Try.f30, go_sem], ret_bool (by rw [HQ.out, decide_eq_false hSM]; rfl), by rw [hB]; exact hfin⟩
  case stop =>
    rintro D2 c pre W _ _ h _
    exact h.elim
end Go.Proofs.Ytbalebnhjpjhgaa

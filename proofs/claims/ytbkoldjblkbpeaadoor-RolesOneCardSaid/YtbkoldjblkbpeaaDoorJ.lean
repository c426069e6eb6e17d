/- Right: its contract. -/
import Derived.Test.YtbkoldjblkbpeaaDoorI
namespace Go.Proofs.YtbkoldjblkbpeaaDoor
open Go.RowKit Go.Shelf
attribute [local go_sem] Oper.semAt_some

section
variable {F : Fence} {n : Nat} {P : Program} {b : Frame} {a : Act} {k : List Item} {cs : List Frame} {w : World} {Q : Exit → Act → World → Prop}

theorem stepR_scope {c : Code} : step P (lone (b.atR a (.code (.scope c) :: k)) cs w) = .next (lone (b.atR a (.code c :: .inScope c :: k)) cs w) :=
  step_lone_go (by simp [stepG, stepG.exec, Frame.atR])
theorem stepR_inScope {c : Code} : step P (lone (b.atR a (.inScope c :: k)) cs w) = .next (lone (b.atR a k) cs w) :=
  step_lone_go (by simp [stepG, stepG.exec, Frame.atR])

/-- A scope through which the run goes without a goto, inside a fence. -/
theorem wpIn_scope_straight {c : Code} (h : c.wpIn F n P (Exit.noGoto Q) a w) : (Code.scope c).wpIn F n P Q a w := by
  intro b k cs hro hb hr
  have h0 : (lone (b.atR a (.code (.scope c) :: k)) cs w).fenced P F := fenced_calm hb hr rfl
  obtain ⟨e, a₁, w₁, hq, harr⟩ := h b (.inScope c :: k) cs hro hb hr
  cases e with
  | normal => exact ⟨.normal, a₁, w₁, hq, .head h0 stepR_scope (StepsIn.trans harr (.one (fenced_calm hb hr rfl) stepR_inScope))⟩
  | exit id =>
    have hx : exitTo id (.inScope c :: k) = exitTo id k := by simp [exitTo]
    exact ⟨.exit id, a₁, w₁, hq, fun k' hk => .head h0 stepR_scope (harr.1 k' (by rw [hx]; exact hk)),
      fun hr' hk => let ⟨k₁, h1, h2⟩ := harr.2 hr' (by rw [hx]; exact hk); ⟨k₁, h1, .head h0 stepR_scope h2⟩⟩
  | goto l => exact hq.elim
  | ret => exact ⟨_, a₁, w₁, hq, .of_steps (.one h0 stepR_scope) harr⟩
  | panic ch => exact ⟨_, a₁, w₁, hq, .of_steps (.one h0 stepR_scope) harr⟩
  | outgrown => exact ⟨_, a₁, w₁, hq, .of_steps (.one h0 stepR_scope) harr⟩
end

def namesOf (l : List Opr) : List (List UInt8) := l.map (fun x => x.n.data.toList)
theorem namesOf_snoc (l : List Opr) (x : Opr) : namesOf (l ++ [x]) = namesOf l ++ [x.n.data.toList] := by simp [namesOf]
/-- All are right, each behind those ahead of it. -/
def okFrom : List (List UInt8) → List Opr → Bool
  | _, [] => true
  | m, x :: l => oneOK m x && okFrom (m ++ [x.n.data.toList]) l
theorem okFrom_snoc (m : List (List UInt8)) (l : List Opr) (x : Opr) : okFrom m (l ++ [x]) = (okFrom m l && oneOK (m ++ namesOf l) x) := by
  induction l generalizing m with
  | nil => simp [okFrom, namesOf]
  | cons y l ih => simp [okFrom, ih, namesOf, Bool.and_assoc]
def upR (L : Nat) (l : List Opr) : Bool := decide (L ≤ 10) && okFrom [] l
theorem upR_snoc (L : Nat) (l : List Opr) (x : Opr) : upR L (l ++ [x]) = (upR L l && oneOK (namesOf l) x) := by
  unfold upR
  rw [okFrom_snoc, List.nil_append, Bool.and_assoc]
theorem upR_pre (L : Nat) (l : List Opr) (h : upR L l = false) (r : List Opr) : upR L (l ++ r) = false := by
  refine snoc_ind (p := fun r => upR L (l ++ r) = false) (by simpa using h) ?_ r
  intro r x ih
  rw [← List.append_assoc, upR_snoc, ih, Bool.false_and]
def rightB (l : List Opr) : Bool := upR l.length l

/-- What holds while operators are checked. -/
structure MetR (z L : Nat) (w : World) (D : List Opr) (W : World) : Prop where
  c : W.cell? ⟨z, 0, none⟩ = some (.bool (upR L D))
  f : W.frozen? ⟨z, 0, none⟩ = false
  m : W.cell? ⟨z + 2, 0, none⟩ = some (.map (some (z + 1)))
  o : upR L D = true → MapN W (z + 1) D.length (namesOf D)
  b : Below z w W
  s : z + 4 ≤ W.heap.size
theorem ownFrom_metR {z L B' : Nat} {w : World} (hB : z + 3 ≤ B') : OwnFrom B' (MetR z L w) := fun _ _ _ _ h hg hr =>
  ⟨cell_kept h.c hg (fun r e => (hr r e).2), (frozen_kept h.c hg (fun r e => (hr r e).2)).trans h.f, cell_kept h.m hg (fun r e => (hr r e).2), fun hu => (h.o hu).kept hg (fun e => by have := (hr _ e.symm).1; omega),
    h.b.grown hg (by have := blt h.c; omega) (fun j hj => by have := (hr j hj).1; omega), Nat.le_trans h.s hg.size⟩
theorem ownFrom_outR {z L B' : Nat} {w : World} (c : Prop) (hB : z + 3 ≤ B') : OwnFrom B' (fun pre W => c ∧ ∃ q x, pre = q ++ [x] ∧ upR L q = false ∧ MetR z L w q W) := fun _ _ _ _ ⟨h1, q, x, h2, h3, h4⟩ hg hr =>
  ⟨h1, q, x, h2, h3, ownFrom_metR hB _ _ _ _ h4 hg hr⟩
theorem grownBy_setCell (W : World) (b o : Nat) (v : Value) : W.grownBy (W.setCell ⟨b, o, none⟩ v) (some b) :=
  ⟨rfl, rfl, rfl, by simp [World.setCell], fun i _ hne => Below.heap_setCell _ _ _ _ (fun e => hne (congrArg some e))⟩

theorem cells_store (W : World) (b : Nat) (o : Nat) (v u : Value) (h : W.cell? ⟨b, o, none⟩ = some u) : (W.setCell ⟨b, o, none⟩ v).cell? ⟨b, o, none⟩ = some v := World.cell?_setCell_same' _ _ _ (by rw [h]; rfl)

/-- How the element's own box lies in a round of Right's loop. -/
def AxR (z L : Nat) (a : Option Addr) (cap : Nat) (x : Opr) (a' : Act) (W : World) : Prop := ∃ b, z + 4 ≤ b ∧ W.cell? ⟨b, 0, none⟩ = some (.string x.n) ∧ W.cell? ⟨b, 1, none⟩ = some (.int .i64 x.r) ∧
  a' = { tmps := #[.slice a L cap, undef, .bool false, .pointer (some ⟨z, 0, none⟩), .pointer (some ⟨z + 1 + 1, 0, none⟩), .pointer (some ⟨b, 0, none⟩), .slice a L cap, .int .i64 L, .bool (decide ((L : Int) ≤ 10)), .map (some (z + 1)), .slice a L cap,
    .func (.func 38) #[] #[.pointer (some ⟨z + 1 + 1 + 1, 0, none⟩)], opV x, undef, undef, undef, undef, undef, undef, undef, undef, undef], defers := [] }
theorem ownFrom_axR {z L B' : Nat} {a : Option Addr} {cap : Nat} (x : Opr) (a' : Act) : OwnFrom B' (fun (_ : Unit) W => AxR z L a cap x a' W) := fun _ _ _ _ ⟨b, hb, h0, h1, e⟩ hg hr =>
  ⟨b, hb, cell_kept h0 hg (fun r e => (hr r e).2), cell_kept h1 hg (fun r e => (hr r e).2), e⟩

set_option maxRecDepth 100000 in
set_option maxHeartbeats 2000000 in
theorem right_in (a : Option Addr) (cap : Nat) (zs : List Opr) (hlen : zs.length ≤ 1000) (w : World) (hI : OprsAt w.heap.size w a zs) :
    CallsIn Fence.wide 6 Tryd.prog 24 #[.slice a zs.length cap] w fun e w' => e = .returned (.bool (rightB zs)) ∧ Below w.heap.size w w' := by
  have hmm := @run_makeMap Tryd.prog
  have hro : Fence.wide.round = none := rfl
  have hS := some_stops Fence.wide 5 trivial rfl (by omega)
  have HI := Lib.hid hI
  have HS := Lib.hid hS
  have N30 : Fence.wide.fn 30 := trivial
  clear hI hS
  unfold rightB
  generalize hL : zs.length = L at *
  refine callsIn_of_wp_marks Tryd.func24 rfl trivial ?_ rfl
  simp only [Tryd.ntmps24, List.size_toArray, List.length_cons, List.length_nil, Nat.reduceAdd, Nat.reduceSub, Array.replicate_succ, Array.replicate_zero, List.push_toArray, List.append_toArray, List.nil_append, List.cons_append]
  gi_wp2
  refine wpIn_scope_straight ?_
  gi_wp2
  refine wpIn_label ?_
  gi_wp2_with (gi_at_call 30; refine (some_in Fence.wide 5 trivial rfl _ _ _ _).mono ?_; rintro e w' ⟨rfl, rfl⟩)
  rename_i K hK
  generalize hz : w.heap.size = z at *
  have bW : Below z w ((((w.alloc (Obj.cells #[Value.bool (decide ((L : Int) ≤ 10))] 4)).alloc (Obj.map #[] 0)).alloc (Obj.cells #[Value.map (some (z + 1))] 61)).alloc (Obj.cells #[Value.slice a L cap] 34)) :=
    ((((Below.refl z w).alloc (by omega) _).alloc (by simp; omega) _).alloc (by simp; omega) _).alloc (by simp; omega) _
  have hm0 := World.ownsMap_made (w.alloc (Obj.cells #[Value.bool (decide ((L : Int) ≤ 10))] 4)) Tryd.prog 9 (plainElem (H := Unit) Tryd.prog 4)
  rw [World.size_alloc, hz] at hm0
  have hm1 := ((hm0.alloc (Obj.cells #[Value.map (some (z + 1))] 61)).alloc (Obj.cells #[Value.slice a L cap] 34))
  have tc : ((((w.alloc (Obj.cells #[Value.bool (decide ((L : Int) ≤ 10))] 4)).alloc (Obj.map #[] 0)).alloc (Obj.cells #[Value.map (some (z + 1))] 61)).alloc (Obj.cells #[Value.slice a L cap] 34)).cell? ⟨z, 0, none⟩ = some (.bool (decide ((L : Int) ≤ 10))) := by subst hz; go_simp
  have tf : ((((w.alloc (Obj.cells #[Value.bool (decide ((L : Int) ≤ 10))] 4)).alloc (Obj.map #[] 0)).alloc (Obj.cells #[Value.map (some (z + 1))] 61)).alloc (Obj.cells #[Value.slice a L cap] 34)).frozen? ⟨z, 0, none⟩ = false := by subst hz; go_simp
  have tm : ((((w.alloc (Obj.cells #[Value.bool (decide ((L : Int) ≤ 10))] 4)).alloc (Obj.map #[] 0)).alloc (Obj.cells #[Value.map (some (z + 1))] 61)).alloc (Obj.cells #[Value.slice a L cap] 34)).cell? ⟨z + 2, 0, none⟩ = some (.map (some (z + 1))) := by subst hz; go_simp
  have tv : ((((w.alloc (Obj.cells #[Value.bool (decide ((L : Int) ≤ 10))] 4)).alloc (Obj.map #[] 0)).alloc (Obj.cells #[Value.map (some (z + 1))] 61)).alloc (Obj.cells #[Value.slice a L cap] 34)).cell? ⟨z + 1 + 1 + 1, 0, none⟩ = some (.slice a L cap) := by subst hz; go_simp
  have hzV : ((((w.alloc (Obj.cells #[Value.bool (decide ((L : Int) ≤ 10))] 4)).alloc (Obj.map #[] 0)).alloc (Obj.cells #[Value.map (some (z + 1))] 61)).alloc (Obj.cells #[Value.slice a L cap] 34)).heap.size = z + 4 := by simp [hz]
  have hdec : decide ((L : Int) ≤ 10) = upR L [] := by simp only [upR, okFrom, Bool.and_true]; rw [Bool.eq_iff_iff]; simp only [decide_eq_true_eq]; omega
  have HD := Lib.hid hdec
  clear hdec
  generalize ((((w.alloc (Obj.cells #[Value.bool (decide ((L : Int) ≤ 10))] 4)).alloc (Obj.map #[] 0)).alloc (Obj.cells #[Value.map (some (z + 1))] 61)).alloc (Obj.cells #[Value.slice a L cap] 34)) = V at *
  suffices hk : ∀ D q W, z + 4 ≤ D → W.heap[D]? = some (.deferred (some [])) → upR L q = upR L zs → MetR z L w q W →
      K { tmps := #[.slice a L cap, undef, .bool false, .pointer (some ⟨z, 0, none⟩), .pointer (some ⟨z + 1 + 1, 0, none⟩), undef, .slice a L cap, .int .i64 L, .bool (decide ((L : Int) ≤ 10)), .map (some (z + 1)), .slice a L cap,
        .func (.func 38) #[] #[.pointer (some ⟨z + 1 + 1 + 1, 0, none⟩)], undef, undef, undef, undef, undef, undef, undef, undef, undef, undef], defers := [{ target := .collected D, args := #[] }] } W by
    refine wpIn_rangeFunc_ownH hro (by omega) (gf := 38) (lb := #[.pointer (some ⟨z + 1 + 1 + 1, 0, none⟩)]) rfl trivial (enters_of Tryd.func38 (by kernel_rfl) rfl)
      (HS.out (z + 1 + 1 + 1) z a cap zs (by omega) V (by omega) (by rw [hL]; exact tv) (HI.out.below bW)) belowK_t (belowK_b (by omega)) (Below.refl _ _) (fun _ => rfl)
      (MetR z L w) (fun c pre W => c = .exit 0 ∧ ∃ q x, pre = q ++ [x] ∧ upR L q = false ∧ MetR z L w q W)
      (ownFrom_metR (by omega)) (fun c => ownFrom_outR (c = .exit 0) (by omega)) ⟨by rw [← HD.out]; exact tc, tf, tm, fun _ => hm1, bW, by omega⟩
      (AxR z L a cap) (fun x a' => ownFrom_axR x a') ?assign ?body ?done ?stop
    case assign =>
      intro l pre x W K' hI0 hK'
      have hzW := hI0.s
      have hzl : z ≤ W.heap.size := by omega
      have A1 : (W.alloc (.cells #[.string x.n, .int .i64 x.r] 56)).cell? ⟨W.heap.size, 0, none⟩ = some (.string x.n) := by go_simp
      have A2 : (W.alloc (.cells #[.string x.n, .int .i64 x.r] 56)).cell? ⟨W.heap.size, 1, none⟩ = some (.int .i64 x.r) := by go_simp
      have hK2 := fun a' => hK' a' (W.alloc (.cells #[.string x.n, .int .i64 x.r] 56)) (KeepsFrom.of_grownBy (World.grownBy_alloc W _ none) (fun j e => by cases e)) ((Below.refl _ _).alloc hzl _)
        (ownFrom_metR (B' := z + 4) (by omega) _ _ _ none hI0 (World.grownBy_alloc W _ none) (fun j e => by cases e))
      have HK := Lib.hid hK2
      clear hK' hI0 tc tf tm tv hm0 hm1 bW hk hK2
      simp only [encO]
      gi_wp2
      exact HK.out _ ⟨W.heap.size, hzW, A1, A2, rfl⟩
    case body =>
      rintro l pre x a' W _ _ g ⟨b, hb, hx0, hx1, rfl⟩ hlt
      have kc := g.c
      have kf := g.f
      have km := g.m
      have hzW := g.s
      clear tc tf tm tv hm0 hm1 bW hk
      cases hu : upR L pre with
      | false =>
        rw [hu] at kc
        have G := Lib.hid g
        clear g
        gi_wp2
        exact ⟨KeepsFrom.refl _ _, rfl, pre, x, rfl, hu, G.out⟩
      | true =>
        rw [hu] at kc
        have ko := g.o hu
        have HU := Lib.hid (upR_snoc L pre x)
        have G := Lib.hid g
        clear g
        have hpl : pre.length ≤ 1000 := by omega
        have hR32 : z + 1 < W.heap.size := by omega
        have C0 : (W.alloc (.cells #[.func (.func 32) #[] #[], .func (.func 33) #[] #[], .func (.func 34) #[.map (some (z + 1))] #[]] 63)).cell? ⟨W.heap.size, 0, none⟩ = some (.func (.func 32) #[] #[]) := by go_simp
        have C1 : (W.alloc (.cells #[.func (.func 32) #[] #[], .func (.func 33) #[] #[], .func (.func 34) #[.map (some (z + 1))] #[]] 63)).cell? ⟨W.heap.size, 1, none⟩ = some (.func (.func 33) #[] #[]) := by go_simp
        have C2 : (W.alloc (.cells #[.func (.func 32) #[] #[], .func (.func 33) #[] #[], .func (.func 34) #[.map (some (z + 1))] #[]] 63)).cell? ⟨W.heap.size, 2, none⟩ = some (.func (.func 34) #[.map (some (z + 1))] #[]) := by go_simp
        have HX := Lib.hid (checks_c x.n x.r x.hs W.heap.size (z + 1) pre.length (namesOf pre) hpl (W.alloc (.cells #[.func (.func 32) #[] #[], .func (.func 33) #[] #[], .func (.func 34) #[.map (some (z + 1))] #[]] 63)) (ko.alloc _) C0 C1 C2)
        clear C0 C1 C2
        have hRow : ∀ r, some (z + 1) = some r → ∃ o : Obj, W.heap[r]? = some o ∧ o.isCells = false := fun r e => by
          cases e
          exact ko.no_cells
        have N31 : Fence.wide.fn 31 := trivial
        gi_wp2_with (gi_at_call 31; refine (CallsIn.inRound l (callsIn_wide.2 HX.out)).mono ?_; rintro e w1 ⟨rfl, hg1, hm1⟩; have gW := (World.grownBy_alloc W _ (some (z + 1))).trans hg1; have kc1 := cell_kept kc gW hRow; have kf1 := (frozen_kept kc gW hRow).trans kf)
        have km1 := cell_kept km gW hRow
        have hb1 : Below z W (w1.setCell ⟨z, 0, none⟩ (.bool (nameOK x.n && roleOK x.r && !decide (x.n.data.toList ∈ namesOf pre)))) :=
          ((Below.refl z W).grown gW (by omega) (fun j e => by cases e; omega)).setCell (p := ⟨z, 0, none⟩) (Nat.le_refl _) _
        refine ⟨(KeepsFrom.of_grownBy gW (fun j e => by cases e; omega)).trans ((KeepsOthers.setCell _ _ _).from _), hb1, ⟨?_, (World.frozen?_setCell ..).trans kf1, (set_other _ _ (by omega)).trans km1, ?_, G.out.b.trans hb1, by rw [World.size_setCell]; exact Nat.le_trans hzW gW.size⟩⟩
        · rw [HU.out, hu, Bool.true_and]
          exact cells_store w1 z 0 _ _ kc1
        · intro hu'
          rw [HU.out, hu, Bool.true_and] at hu'
          rw [namesOf_snoc, List.length_append]
          exact (hm1 hu').kept (grownBy_setCell _ _ _ _) (fun e => by cases e)
    case done =>
      rintro D ys W hD rfl g hdef
      exact hk D ys W (by omega) hdef rfl g
    case stop =>
      rintro D c pre W hD ⟨r, hpre⟩ ⟨rfl, q, x, rfl, hx, g⟩ hdef
      have hend : upR L q = upR L zs := by rw [← hpre, List.append_assoc, hx, upR_pre L q hx]
      have := hk D q W (by omega) hdef hend g
      gi_wp2
      exact this
  intro D q W hD hdef hend g
  refine hK _ _ ?_
  have kc := g.c
  have kb := g.b
  rw [hend] at kc
  generalize hr : upR L zs = r at *
  clear g hend tc tf tm tv hm0 hm1 bW hzV
  gi_wp2
  refine ⟨by simp, .inl ⟨_, _, rfl, run_takeDeferred hdef, ?_⟩⟩
  refine ⟨.bool r, by simp [results, Tryd.f24, go_sem], ret_bool hr.symm, ?_⟩
  rw [hz]
  exact kb.trans (belowK_b (w := w) (by omega) W D _ _ (by omega) hdef rfl rfl)
end Go.Proofs.YtbkoldjblkbpeaaDoor

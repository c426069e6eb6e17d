/- It, Ig, Pp, Pq -/
import Derived.Test.YtgceecfjammnaaaDoorZ0
set_option linter.unusedVariables false
set_option linter.unusedSimpArgs false
/- A range over a function of any kind: the iterator may make and write memory of its own, the body may write what is the caller's and make more. -/
namespace Go.Proofs.YtgceecfjammnaaaDoor
open Go.RowKit

section
variable {F : Fence} {n : Nat} {P : Program} {b : Frame} {a : Act} {k : List Item} {cs : List Frame} {w : World} {Q : Exit → Act → World → Prop}

theorem stepR_scope {c : Code} : step P (lone (b.atR a (.code (.scope c) :: k)) cs w) = .next (lone (b.atR a (.code c :: .inScope c :: k)) cs w) :=
  step_lone_go (by simp [stepG, stepG.exec, Frame.atR])
theorem stepR_inScope {c : Code} : step P (lone (b.atR a (.inScope c :: k)) cs w) = .next (lone (b.atR a k) cs w) :=
  step_lone_go (by simp [stepG, stepG.exec, Frame.atR])

/-- A scope through which the run goes without a goto, inside a fence. -/
theorem wpIn_scope_straight {c : Code} (h : c.wpIn F n P (Exit.noGoto Q) a w) : (Code.scope c).wpIn F n P Q a w := by
  intro b k cs hro hb hr
  have h0 : (lone (b.atR a (.code (.scope c) :: k)) cs w).fenced P F := fenced_calm hb hr rfl
  obtain ⟨e, a₁, w₁, hq, harr⟩ := h b (.inScope c :: k) cs hro hb hr
  cases e with
  | normal => exact ⟨.normal, a₁, w₁, hq, .head h0 stepR_scope (StepsIn.trans harr (.one (fenced_calm hb hr rfl) stepR_inScope))⟩
  | exit id =>
    have hx : exitTo id (.inScope c :: k) = exitTo id k := by simp [exitTo]
    exact ⟨.exit id, a₁, w₁, hq, fun k' hk => .head h0 stepR_scope (harr.1 k' (by rw [hx]; exact hk)),
      fun hr' hk => let ⟨k₁, h1, h2⟩ := harr.2 hr' (by rw [hx]; exact hk); ⟨k₁, h1, .head h0 stepR_scope h2⟩⟩
  | goto l => exact hq.elim
  | ret => exact ⟨_, a₁, w₁, hq, .of_steps (.one h0 stepR_scope) harr⟩
  | panic ch => exact ⟨_, a₁, w₁, hq, .of_steps (.one h0 stepR_scope) harr⟩
  | outgrown => exact ⟨_, a₁, w₁, hq, .of_steps (.one h0 stepR_scope) harr⟩
end

/-- All that is not private lies as it lay. -/
structure Goes (Pv : Nat → Prop) (A B : World) : Prop where
  os : B.os = A.os
  tape : B.tape = A.tape
  output : B.output = A.output
  size : A.heap.size ≤ B.heap.size
  same : ∀ i, i < A.heap.size → ¬ Pv i → B.heap[i]? = A.heap[i]?
theorem Goes.refl (Pv : Nat → Prop) (A : World) : Goes Pv A A := ⟨rfl, rfl, rfl, Nat.le_refl _, fun _ _ _ => rfl⟩
theorem Goes.trans {Pv : Nat → Prop} {A B C : World} (h : Goes Pv A B) (k : Goes Pv B C) : Goes Pv A C :=
  ⟨k.os.trans h.os, k.tape.trans h.tape, k.output.trans h.output, Nat.le_trans h.size k.size, fun i hi hp => (k.same i (Nat.lt_of_lt_of_le hi h.size) hp).trans (h.same i hi hp)⟩
theorem Goes.of_below {Pv : Nat → Prop} {A B : World} (h : Below A.heap.size A B) : Goes Pv A B := ⟨h.os, h.tape, h.output, h.size, fun i hi _ => h.block i hi⟩
theorem Goes.of_grown {Pv : Nat → Prop} {A B : World} {row : Option Nat} (h : A.grownBy B row) (hr : ∀ r, row = some r → Pv r) : Goes Pv A B :=
  ⟨h.os, h.tape, h.output, h.size, fun i hi hp => h.block i hi (fun e => hp (hr i e.symm))⟩
theorem Goes.mono {Pv Pv' : Nat → Prop} {A B : World} (h : Goes Pv A B) (hp : ∀ i, Pv i → Pv' i) : Goes Pv' A B := ⟨h.os, h.tape, h.output, h.size, fun i hi h' => h.same i hi (fun k => h' (hp i k))⟩
theorem Goes.putObj {Pv : Nat → Prop} (W : World) {l : Nat} (o : Obj) (hl : Pv l) : Goes Pv W (W.putObj l o) := Goes.of_grown (grownBy_putObj' W l o) (fun _ e => by cases e; exact hl)
theorem Goes.alloc (Pv : Nat → Prop) (W : World) (o : Obj) : Goes Pv W (W.alloc o) := Goes.of_below (below_alloc W o)
theorem Goes.obj {Pv : Nat → Prop} {A B : World} {i : Nat} {o : Obj} (h : Goes Pv A B) (hi : A.heap[i]? = some o) (hp : ¬ Pv i) : B.heap[i]? = some o := (h.same i (Array.getElem?_eq_some_iff.1 hi).1 hp).trans hi
theorem Goes.cell {Pv : Nat → Prop} {A B : World} {b o : Nat} {v : Value} (h : Goes Pv A B) (hc : A.cell? ⟨b, o, none⟩ = some v) (hp : ¬ Pv b) : B.cell? ⟨b, o, none⟩ = some v := (World.cell?_of_block (w := A) (h.same b (blt hc) hp)).trans hc
theorem Goes.frozen {Pv : Nat → Prop} {A B : World} {b o : Nat} {v : Value} (h : Goes Pv A B) (hc : A.cell? ⟨b, o, none⟩ = some v) (hp : ¬ Pv b) : B.frozen? ⟨b, o, none⟩ = A.frozen? ⟨b, o, none⟩ := World.frozen?_of_block (w := A) (h.same b (blt hc) hp)
theorem Goes.below {Pv : Nat → Prop} {w A B : World} (h : Goes Pv A B) (hb : Below w.heap.size w A) (hp : ∀ i, Pv i → w.heap.size ≤ i) : Below w.heap.size w B :=
  ⟨h.os.trans hb.os, h.tape.trans hb.tape, h.output.trans hb.output, Nat.le_trans hb.size h.size, fun i hi => (h.same i (Nat.lt_of_lt_of_le hi hb.size) (fun k => by have := hp i k; omega)).trans (hb.block i hi)⟩
/-- A row that is no private block is owned on. -/
theorem Goes.ownsRow {Pv : Nat → Prop} {A B : World} {base : Nat} {e : TypeId} {size : Nat} {v : Value} {k : Nat} {xs : List Value} (h : Goes Pv A B) (hr : A.ownsRow base e size v k xs) (hp : ∀ b, v.ownBlock = some b → ¬ Pv b) : B.ownsRow base e size v k xs := by
  rcases hr with ⟨h1, h2 | ⟨g, cap, cur, rfl, h3, h4, h5⟩⟩
  · exact ⟨h1, .inl h2⟩
  · exact ⟨h1, .inr ⟨g, cap, cur, rfl, h3, h.obj h4 (hp g rfl), h5⟩⟩

/-- All that is private lies as it lay. -/
structure Mid (Pv : Nat → Prop) (A B : World) : Prop where
  size : A.heap.size ≤ B.heap.size
  same : ∀ i, i < A.heap.size → Pv i → B.heap[i]? = A.heap[i]?
theorem Mid.refl (Pv : Nat → Prop) (A : World) : Mid Pv A A := ⟨Nat.le_refl _, fun _ _ _ => rfl⟩
theorem Mid.trans {Pv : Nat → Prop} {A B C : World} (h : Mid Pv A B) (k : Mid Pv B C) : Mid Pv A C := ⟨Nat.le_trans h.size k.size, fun i hi hp => (k.same i (Nat.lt_of_lt_of_le hi h.size) hp).trans (h.same i hi hp)⟩
theorem Mid.of_below {Pv : Nat → Prop} {A B : World} (h : Below A.heap.size A B) : Mid Pv A B := ⟨h.size, fun i hi _ => h.block i hi⟩
theorem Mid.of_grown {Pv : Nat → Prop} {A B : World} {row : Option Nat} (h : A.grownBy B row) (hr : ∀ r, row = some r → ¬ Pv r) : Mid Pv A B :=
  ⟨h.size, fun i hi hp => h.block i hi (fun e => hr i e.symm hp)⟩
theorem Mid.mono {Pv Pv' : Nat → Prop} {A B : World} (h : Mid Pv A B) (hp : ∀ i, Pv' i → Pv i) : Mid Pv' A B := ⟨h.size, fun i hi k => h.same i hi (hp i k)⟩
theorem Mid.obj {Pv : Nat → Prop} {A B : World} {i : Nat} {o : Obj} (h : Mid Pv A B) (hi : A.heap[i]? = some o) (hp : Pv i) : B.heap[i]? = some o := (h.same i (Array.getElem?_eq_some_iff.1 hi).1 hp).trans hi
theorem Mid.cell {Pv : Nat → Prop} {A B : World} {b o : Nat} {v : Value} (h : Mid Pv A B) (hc : A.cell? ⟨b, o, none⟩ = some v) (hp : Pv b) : B.cell? ⟨b, o, none⟩ = some v := (World.cell?_of_block (w := A) (h.same b (blt hc) hp)).trans hc
theorem Mid.setCell {Pv : Nat → Prop} {A B : World} {b o : Nat} (h : Mid Pv A B) (v : Value) (hp : ¬ Pv b) : Mid Pv A (B.setCell ⟨b, o, none⟩ v) :=
  h.trans ⟨(KeepsWalks.setCell B _ v).size, fun i _ k => Below.heap_setCell B ⟨b, o, none⟩ v i (fun e => hp (by rw [show b = i from e.symm]; exact k))⟩
theorem Mid.alloc {Pv : Nat → Prop} {A B : World} (h : Mid Pv A B) (o : Obj) : Mid Pv A (B.alloc o) := h.trans (Mid.of_below (below_alloc B o))

/-- What is left private, and more: whatever was private, or was made. -/
def More (Pv Pv' : Nat → Prop) (A B : World) : Prop := ∀ i, Pv' i → Pv i ∨ (A.heap.size ≤ i ∧ i < B.heap.size)
theorem More.same (Pv : Nat → Prop) (A B : World) : More Pv Pv A B := fun _ h => .inl h
/-- What the caller's invariant abides. -/
def Steady {β : Type} (J : β → (Nat → Prop) → World → Prop) : Prop := ∀ s Pv Pv' A B, J s Pv A → Goes Pv A B → More Pv Pv' A B → J s Pv' B

/-- The contract of an iterator that may make and write memory of its own. -/
def Iters {α : Type} (F : Fence) (n : Nat) (P : Program) (g : Nat) (lb : Array Value) (encs : α → Array Value) (Nx : List α → α → Prop) (S Sp : List α → Prop) (Cap : Nat → Prop) (w : World) : Prop :=
  ∀ (l : Nat) (J Jx : List α → (Nat → Prop) → World → Prop) (W : World) (Pv : Nat → Prop), Below w.heap.size w W → (∀ i, Cap i → Pv i) → Steady J → Steady Jx →
    (∀ pre x Pv W1, Nx pre x → J pre Pv W1 → YieldAt F (n - 1) P l (encs x) W1 fun e W' =>
      (e = .returned (.bool true) ∧ J (pre ++ [x]) Pv W' ∧ Mid Pv W1 W') ∨ (e = .returned (.bool false) ∧ Jx (pre ++ [x]) Pv W' ∧ Mid Pv W1 W')) →
    J [] Pv W →
    CallsIn F n P g (#[.func (.yield l) #[] #[]] ++ lb) W fun e W' => (∃ v, e = .returned v) ∧ ((∃ xs Pv, S xs ∧ J xs Pv W') ∨ (∃ pre Pv, Sp pre ∧ Jx pre Pv W'))
theorem Iters.later {α : Type} {F : Fence} {n : Nat} {P : Program} {g : Nat} {lb : Array Value} {encs : α → Array Value} {Nx : List α → α → Prop} {S Sp : List α → Prop} {Cap : Nat → Prop} {w w' : World}
    (h : Iters F n P g lb encs Nx S Sp Cap w) (hb : Below w.heap.size w w') : Iters F n P g lb encs Nx S Sp Cap w' :=
  fun l J Jx W Pv hW hc hJ hJx hY h0 => h l J Jx W Pv (btr hb hW) hc hJ hJx hY h0

/-- How a round may be left. -/
def itPost {β : Type} (I : β → (Nat → Prop) → World → Prop) (Ix : Code → β → (Nat → Prop) → World → Prop) (xs : β) (Pv : Nat → Prop) (W : World) : Exit → Act → World → Prop
  | .normal, _, W' => I xs Pv W' ∧ Mid Pv W W'
  | .ret, _, W' => Ix .ret xs Pv W' ∧ Mid Pv W W'
  | .exit id, _, W' => Ix (.exit id) xs Pv W' ∧ Mid Pv W W'
  | .goto t, _, W' => Ix (.goto t) xs Pv W' ∧ Mid Pv W W'
  | .panic _, _, _ => False
  | .outgrown, _, _ => False

/-- The range itself. -/
theorem wpIn_range_iters {F : Fence} {n : Nat} {P : Program} {α : Type} {g : Operand} {ps : Array Tmp} {assign body : Code} {Q : Exit → Act → World → Prop} {a : Act} {w : World}
    (hro : F.round = none) (h1 : 1 ≤ n) {gf : Nat} {lb : Array Value} (hg : a.eval g = .func (.func gf) #[] lb) (hFg : F.fn gf) (eg : ∀ args w, (callFunc gf args).run P w = .ok (.enter gf args) w)
    {encs : α → Array Value} {Nx : List α → α → Prop} {S Sp : List α → Prop} {Cap : Nat → Prop} {w0 : World} (hseq : Iters F (n - 1) P gf lb encs Nx S Sp Cap w0) (hb0 : Below w0.heap.size w0 w) (hps : ∀ x, (encs x).size = ps.size) (hcap : ∀ i, Cap i → i < w.heap.size)
    (I : List α → (Nat → Prop) → World → Prop) (Ix : Code → List α → (Nat → Prop) → World → Prop) (hI : Steady I) (hIx : ∀ c, Steady (Ix c)) (h0 : I [] Cap w)
    (hround : ∀ (l : Nat) (pre : List α) (x : α) (Pv : Nat → Prop) (W : World), Nx pre x → I pre Pv W → Pv l → w.heap.size ≤ l → (∃ r, W.heap[l]? = some (.loop r)) →
      assign.wpIn (F.inRound l) (n - 1 - 1) P (Exit.then (fun a' W' => Mid Pv W W' ∧ ∀ W'', Goes (fun i => i = l) W' W'' → (∃ r, W''.heap[l]? = some (.loop r)) →
        body.wpIn (F.inRound l) (n - 1 - 1) P (itPost I Ix (pre ++ [x]) Pv W'') a' W'') (fun _ _ _ => False)) { tmps := (ps.zip (encs x)).foldl (fun t (p, v) => t.setIfInBounds p v) a.tmps, defers := [] } W)
    (hdone : ∀ (D : Nat) (xs : List α) (Pv : Nat → Prop) (W : World), w.heap.size ≤ D → Pv D → S xs → I xs Pv W → W.heap[D]? = some (.deferred (some [])) → Q .normal { a with defers := { target := .collected D, args := #[] } :: a.defers } W)
    (hstop : ∀ (D : Nat) (c : Code) (pre : List α) (Pv : Nat → Prop) (W : World), w.heap.size ≤ D → Pv D → Sp pre → Ix c pre Pv W → W.heap[D]? = some (.deferred (some [])) → c.wpIn F n P Q { a with defers := { target := .collected D, args := #[] } :: a.defers } W) :
    (Code.rangeFunc g ps assign body).wpIn F n P Q a w := by
  refine wpIn_rangeFunc ?_
  intro fn hfn
  rw [hro]
  obtain ⟨rec, hrec⟩ : ∃ rec : LoopState → Option Code → Loop, rec = fun st pe => { state := st, pending := pe, fn, tmps := a.tmps, params := ps, assign, body, defers := w.heap.size } := ⟨_, rfl⟩
  let V := (w.alloc (.deferred (some []))).alloc (.loop (rec .ready none))
  have hVs : V.heap.size = w.heap.size + 2 := by simp [V]
  have hLV : V.heap[w.heap.size + 1]? = some (.loop (rec .ready none)) := by
    have := World.alloc_heap_new (w.alloc (.deferred (some []))) (.loop (rec .ready none)); rwa [World.size_alloc] at this
  have hDV : V.heap[w.heap.size]? = some (.deferred (some [])) := (Below.heap_alloc _ _ _ (by simp)).trans (World.alloc_heap_new w _)
  have hbV : Below w.heap.size w V := bal (below_alloc w _) _
  let Pv0 : Nat → Prop := fun i => Cap i ∨ i = w.heap.size ∨ i = w.heap.size + 1
  have hIV : I [] Pv0 V := hI _ _ _ _ _ h0 (Goes.of_below hbV) (fun i h => by rcases h with h | rfl | rfl; exact .inl h; exact .inr ⟨by omega, by omega⟩; exact .inr ⟨by omega, by omega⟩)
  have wide : ∀ {Pv Pv' : Nat → Prop} {A B : World}, More Pv Pv' A B → More (fun i => Pv i ∨ i = w.heap.size ∨ i = w.heap.size + 1) (fun i => Pv' i ∨ i = w.heap.size ∨ i = w.heap.size + 1) A B := fun hm i h => by
    rcases h with h | h
    · exact (hm i h).elim (fun k => .inl (.inl k)) .inr
    · exact .inl (.inr h)
  refine ⟨w.heap.size + 1, [{ target := .collected w.heap.size, args := #[] }], V, { target := .fn (.func gf) lb, args := #[.func (.yield (w.heap.size + 1)) #[] #[]] }, V, gf,
    #[.func (.yield (w.heap.size + 1)) #[] #[]] ++ lb, V, ?_, ?_, ?_, ?_, fun _ => h1, ?_⟩
  · rw [show V = (w.alloc (.deferred (some []))).alloc (.loop (rec .ready none)) from rfl, hrec]; exact run_enterLoop_outer _ _ _ _ _
  · simp only [resolve, hg]
    simp [go_sem]
  · intro f' hf'; simp [Target.leads] at hf'; subst hf'; exact hFg
  · simp [invoke, go_sem, eg]
  · clear_value V
    refine (hseq (w.heap.size + 1)
      (fun pre Pv W => I pre (fun i => Pv i ∨ i = w.heap.size ∨ i = w.heap.size + 1) W ∧ w.heap.size + 2 ≤ W.heap.size ∧ ¬ Pv w.heap.size ∧ ¬ Pv (w.heap.size + 1) ∧ W.heap[w.heap.size + 1]? = some (.loop (rec .ready none)) ∧ W.heap[w.heap.size]? = some (.deferred (some [])))
      (fun pre Pv W => ∃ c, Ix c pre (fun i => Pv i ∨ i = w.heap.size ∨ i = w.heap.size + 1) W ∧ w.heap.size + 2 ≤ W.heap.size ∧ ¬ Pv w.heap.size ∧ ¬ Pv (w.heap.size + 1) ∧ W.heap[w.heap.size + 1]? = some (.loop (rec .done (some c))) ∧ W.heap[w.heap.size]? = some (.deferred (some [])))
      V Cap (btr hb0 hbV) (fun _ h => h) ?_ ?_ ?_ ⟨hIV, by omega, fun h => by have := hcap _ h; omega, fun h => by have := hcap _ h; omega, hLV, hDV⟩).mono ?_
    · rintro s Pv Pv' A B ⟨j1, j2, j3, j4, j5, j6⟩ hg hm
      exact ⟨hI s _ _ A B j1 (hg.mono fun i h => .inl h) (wide hm), Nat.le_trans j2 hg.size, fun h => (hm _ h).elim j3 (fun h => by omega), fun h => (hm _ h).elim j4 (fun h => by omega), hg.obj j5 j4, hg.obj j6 j3⟩
    · rintro s Pv Pv' A B ⟨c, j1, j2, j3, j4, j5, j6⟩ hg hm
      exact ⟨c, hIx c s _ _ A B j1 (hg.mono fun i h => .inl h) (wide hm), Nat.le_trans j2 hg.size, fun h => (hm _ h).elim j3 (fun h => by omega), fun h => (hm _ h).elim j4 (fun h => by omega), hg.obj j5 j4, hg.obj j6 j3⟩
    · rintro pre x Pv W hnx ⟨hi, hz, n1, n2, hl, hk⟩
      have hy := run_yield (P := P) (args := encs x) hl (by rw [hrec]; exact hps x)
      rw [hrec] at hy
      refine ⟨fn, _, assign, body, hy, roundIn_of_wpIn hfn (wpIn_mono (hround (w.heap.size + 1) pre x (fun i => Pv i ∨ i = w.heap.size ∨ i = w.heap.size + 1) W hnx hi (.inr (.inr rfl)) (by omega) ⟨_, hl⟩) ?_)⟩
      rintro e a2 W2 h2
      cases e with
      | normal =>
        obtain ⟨hm2, hbody⟩ := h2
        have hl2 := hm2.obj hl (.inr (.inr rfl))
        have hk2 := hm2.obj hk (.inr (.inl rfl))
        refine ⟨_, run_beginRound hl2 (by rw [hrec]), ?_⟩
        have hlB : (W2.putObj (w.heap.size + 1) (.loop { rec .ready none with state := .busy })).heap[w.heap.size + 1]? = some (.loop { rec .ready none with state := .busy }) := World.putObj_heap_same (Array.getElem?_eq_some_iff.1 hl2).1
        have hkB : (W2.putObj (w.heap.size + 1) (.loop { rec .ready none with state := .busy })).heap[w.heap.size]? = some (.deferred (some [])) := (World.putObj_heap_other (by omega)).trans hk2
        have hmB : ∀ W3, Mid (fun i => Pv i ∨ i = w.heap.size ∨ i = w.heap.size + 1) (W2.putObj (w.heap.size + 1) (.loop { rec .ready none with state := .busy })) W3 → ∀ o, Mid Pv W (W3.putObj (w.heap.size + 1) o) := fun W3 h o =>
          (hm2.mono fun i h => .inl h).trans ((Mid.of_grown (grownBy_putObj' W2 _ _) (fun r e => by cases e; exact n2)).trans ((h.mono fun i h => .inl h).trans (Mid.of_grown (grownBy_putObj' W3 _ _) (fun r e => by cases e; exact n2))))
        refine wpIn_mono (hbody _ (Goes.putObj W2 _ rfl) ⟨_, hlB⟩) ?_
        have fin : ∀ (jump : Option Code) (W3 : World), Mid (fun i => Pv i ∨ i = w.heap.size ∨ i = w.heap.size + 1) (W2.putObj (w.heap.size + 1) (.loop { rec .ready none with state := .busy })) W3 →
            (Instr.endRound (w.heap.size + 1) jump).run P W3 = .ok (.bool jump.isNone) (W3.putObj (w.heap.size + 1) (.loop (rec (if jump.isNone then .ready else .done) jump))) ∧
            (W3.putObj (w.heap.size + 1) (.loop (rec (if jump.isNone then .ready else .done) jump))).heap[w.heap.size + 1]? = some (.loop (rec (if jump.isNone then .ready else .done) jump)) ∧
            (W3.putObj (w.heap.size + 1) (.loop (rec (if jump.isNone then .ready else .done) jump))).heap[w.heap.size]? = some (.deferred (some [])) ∧
            w.heap.size + 2 ≤ (W3.putObj (w.heap.size + 1) (.loop (rec (if jump.isNone then .ready else .done) jump))).heap.size := fun jump W3 h => by
          have hl3 := h.obj hlB (.inr (.inr rfl))
          have hk3 := h.obj hkB (.inr (.inl rfl))
          have := run_endRound (P := P) jump hl3
          rw [hrec] at this ⊢
          refine ⟨this, World.putObj_heap_same (Array.getElem?_eq_some_iff.1 hl3).1, (World.putObj_heap_other (by omega)).trans hk3, ?_⟩
          have h4 := (Array.getElem?_eq_some_iff.1 hl3).1
          simp [World.putObj]; omega
        rintro e a3 W3 hp
        cases e with
        | normal =>
          obtain ⟨q1, q2⟩ := hp
          obtain ⟨f1, f2, f3, f4⟩ := fin none W3 q2
          exact ⟨_, _, f1, .inl ⟨rfl, ⟨hI _ _ _ _ _ q1 (Goes.putObj W3 _ (.inr (.inr rfl))) (More.same _ _ _), f4, n1, n2, f2, f3⟩, hmB W3 q2 _⟩⟩
        | ret =>
          obtain ⟨q1, q2⟩ := hp
          obtain ⟨f1, f2, f3, f4⟩ := fin (some .ret) W3 q2
          exact ⟨_, _, f1, .inr ⟨rfl, ⟨.ret, hIx _ _ _ _ _ _ q1 (Goes.putObj W3 _ (.inr (.inr rfl))) (More.same _ _ _), f4, n1, n2, f2, f3⟩, hmB W3 q2 _⟩⟩
        | exit id =>
          obtain ⟨q1, q2⟩ := hp
          obtain ⟨f1, f2, f3, f4⟩ := fin (some (.exit id)) W3 q2
          exact ⟨_, _, f1, .inr ⟨rfl, ⟨.exit id, hIx _ _ _ _ _ _ q1 (Goes.putObj W3 _ (.inr (.inr rfl))) (More.same _ _ _), f4, n1, n2, f2, f3⟩, hmB W3 q2 _⟩⟩
        | goto t =>
          obtain ⟨q1, q2⟩ := hp
          obtain ⟨f1, f2, f3, f4⟩ := fin (some (.goto t)) W3 q2
          exact ⟨_, _, f1, .inr ⟨rfl, ⟨.goto t, hIx _ _ _ _ _ _ q1 (Goes.putObj W3 _ (.inr (.inr rfl))) (More.same _ _ _), f4, n1, n2, f2, f3⟩, hmB W3 q2 _⟩⟩
        | panic _ => exact hp.elim
        | outgrown => exact hp.elim
      | ret => exact h2.elim
      | exit _ => exact h2.elim
      | goto _ => exact h2.elim
      | panic _ => exact h2.elim
      | outgrown => exact h2.elim
    · rintro e W2 ⟨⟨v, rfl⟩, (⟨xs, Pv, hS, hi, hz, n1, n2, hl, hk⟩ | ⟨pre, Pv, hSp, c, hi, hz, n1, n2, hl, hk⟩)⟩
      · exact ⟨none, _, by have := run_endLoop (P := P) hl (by rw [hrec]; simp); rw [hrec] at this; exact this, hdone _ xs _ _ (Nat.le_refl _) (.inr (.inl rfl)) hS (hI _ _ _ _ _ hi (Goes.putObj W2 _ (.inr (.inr rfl))) (More.same _ _ _)) ((World.putObj_heap_other (by omega)).trans hk)⟩
      · exact ⟨some c, _, by have := run_endLoop (P := P) hl (by rw [hrec]; simp); rw [hrec] at this; exact this, hstop _ c pre _ _ (Nat.le_refl _) (.inr (.inl rfl)) hSp (hIx c _ _ _ _ _ hi (Goes.putObj W2 _ (.inr (.inr rfl))) (More.same _ _ _)) ((World.putObj_heap_other (by omega)).trans hk)⟩
end Go.Proofs.YtgceecfjammnaaaDoor

/- A range over a function of any kind (It), where the iterator reads what the caller keeps: the caller's invariant gives a guard. -/
namespace Go.Proofs.YtgceecfjammnaaaDoor
open Go.RowKit

/-- The contract of an iterator that may make and write memory of its own. -/
def ItersG {α : Type} (F : Fence) (n : Nat) (P : Program) (g : Nat) (lb : Array Value) (encs : α → Array Value) (Nx : List α → α → Prop) (S Sp : List α → Prop) (Cap : Nat → Prop) (G : World → Prop) (w : World) : Prop :=
  ∀ (l : Nat) (J Jx : List α → (Nat → Prop) → World → Prop) (W : World) (Pv : Nat → Prop), Below w.heap.size w W → (∀ i, Cap i → Pv i) → Steady J → Steady Jx → (∀ s Pv W, J s Pv W → G W) →
    (∀ pre x Pv W1, Nx pre x → J pre Pv W1 → YieldAt F (n - 1) P l (encs x) W1 fun e W' =>
      (e = .returned (.bool true) ∧ J (pre ++ [x]) Pv W' ∧ Mid Pv W1 W') ∨ (e = .returned (.bool false) ∧ Jx (pre ++ [x]) Pv W' ∧ Mid Pv W1 W')) →
    J [] Pv W →
    CallsIn F n P g (#[.func (.yield l) #[] #[]] ++ lb) W fun e W' => (∃ v, e = .returned v) ∧ ((∃ xs Pv, S xs ∧ J xs Pv W') ∨ (∃ pre Pv, Sp pre ∧ Jx pre Pv W'))
/-- The range itself. -/
theorem wpIn_range_itersG {F : Fence} {n : Nat} {P : Program} {α : Type} {g : Operand} {ps : Array Tmp} {assign body : Code} {Q : Exit → Act → World → Prop} {a : Act} {w : World}
    (hro : F.round = none) (h1 : 1 ≤ n) {gf : Nat} {lb : Array Value} (hg : a.eval g = .func (.func gf) #[] lb) (hFg : F.fn gf) (eg : ∀ args w, (callFunc gf args).run P w = .ok (.enter gf args) w)
    {encs : α → Array Value} {Nx : List α → α → Prop} {S Sp : List α → Prop} {Cap : Nat → Prop} {w0 : World} {G : World → Prop} (hseq : ItersG F (n - 1) P gf lb encs Nx S Sp Cap G w0) (hb0 : Below w0.heap.size w0 w) (hps : ∀ x, (encs x).size = ps.size) (hcap : ∀ i, Cap i → i < w.heap.size)
    (I : List α → (Nat → Prop) → World → Prop) (Ix : Code → List α → (Nat → Prop) → World → Prop) (hG : ∀ s Pv W, I s Pv W → G W) (hI : Steady I) (hIx : ∀ c, Steady (Ix c)) (h0 : I [] Cap w)
    (hround : ∀ (l : Nat) (pre : List α) (x : α) (Pv : Nat → Prop) (W : World), Nx pre x → I pre Pv W → Pv l → w.heap.size ≤ l → (∃ r, W.heap[l]? = some (.loop r)) →
      assign.wpIn (F.inRound l) (n - 1 - 1) P (Exit.then (fun a' W' => Mid Pv W W' ∧ ∀ W'', Goes (fun i => i = l) W' W'' → (∃ r, W''.heap[l]? = some (.loop r)) →
        body.wpIn (F.inRound l) (n - 1 - 1) P (itPost I Ix (pre ++ [x]) Pv W'') a' W'') (fun _ _ _ => False)) { tmps := (ps.zip (encs x)).foldl (fun t (p, v) => t.setIfInBounds p v) a.tmps, defers := [] } W)
    (hdone : ∀ (D : Nat) (xs : List α) (Pv : Nat → Prop) (W : World), w.heap.size ≤ D → Pv D → S xs → I xs Pv W → W.heap[D]? = some (.deferred (some [])) → Q .normal { a with defers := { target := .collected D, args := #[] } :: a.defers } W)
    (hstop : ∀ (D : Nat) (c : Code) (pre : List α) (Pv : Nat → Prop) (W : World), w.heap.size ≤ D → Pv D → Sp pre → Ix c pre Pv W → W.heap[D]? = some (.deferred (some [])) → c.wpIn F n P Q { a with defers := { target := .collected D, args := #[] } :: a.defers } W) :
    (Code.rangeFunc g ps assign body).wpIn F n P Q a w := by
  refine wpIn_rangeFunc ?_
  intro fn hfn
  rw [hro]
  obtain ⟨rec, hrec⟩ : ∃ rec : LoopState → Option Code → Loop, rec = fun st pe => { state := st, pending := pe, fn, tmps := a.tmps, params := ps, assign, body, defers := w.heap.size } := ⟨_, rfl⟩
  let V := (w.alloc (.deferred (some []))).alloc (.loop (rec .ready none))
  have hVs : V.heap.size = w.heap.size + 2 := by simp [V]
  have hLV : V.heap[w.heap.size + 1]? = some (.loop (rec .ready none)) := by
    have := World.alloc_heap_new (w.alloc (.deferred (some []))) (.loop (rec .ready none)); rwa [World.size_alloc] at this
  have hDV : V.heap[w.heap.size]? = some (.deferred (some [])) := (Below.heap_alloc _ _ _ (by simp)).trans (World.alloc_heap_new w _)
  have hbV : Below w.heap.size w V := bal (below_alloc w _) _
  let Pv0 : Nat → Prop := fun i => Cap i ∨ i = w.heap.size ∨ i = w.heap.size + 1
  have hIV : I [] Pv0 V := hI _ _ _ _ _ h0 (Goes.of_below hbV) (fun i h => by rcases h with h | rfl | rfl; exact .inl h; exact .inr ⟨by omega, by omega⟩; exact .inr ⟨by omega, by omega⟩)
  have wide : ∀ {Pv Pv' : Nat → Prop} {A B : World}, More Pv Pv' A B → More (fun i => Pv i ∨ i = w.heap.size ∨ i = w.heap.size + 1) (fun i => Pv' i ∨ i = w.heap.size ∨ i = w.heap.size + 1) A B := fun hm i h => by
    rcases h with h | h
    · exact (hm i h).elim (fun k => .inl (.inl k)) .inr
    · exact .inl (.inr h)
  refine ⟨w.heap.size + 1, [{ target := .collected w.heap.size, args := #[] }], V, { target := .fn (.func gf) lb, args := #[.func (.yield (w.heap.size + 1)) #[] #[]] }, V, gf,
    #[.func (.yield (w.heap.size + 1)) #[] #[]] ++ lb, V, ?_, ?_, ?_, ?_, fun _ => h1, ?_⟩
  · rw [show V = (w.alloc (.deferred (some []))).alloc (.loop (rec .ready none)) from rfl, hrec]; exact run_enterLoop_outer _ _ _ _ _
  · simp only [resolve, hg]
    simp [go_sem]
  · intro f' hf'; simp [Target.leads] at hf'; subst hf'; exact hFg
  · simp [invoke, go_sem, eg]
  · clear_value V
    refine (hseq (w.heap.size + 1)
      (fun pre Pv W => I pre (fun i => Pv i ∨ i = w.heap.size ∨ i = w.heap.size + 1) W ∧ w.heap.size + 2 ≤ W.heap.size ∧ ¬ Pv w.heap.size ∧ ¬ Pv (w.heap.size + 1) ∧ W.heap[w.heap.size + 1]? = some (.loop (rec .ready none)) ∧ W.heap[w.heap.size]? = some (.deferred (some [])))
      (fun pre Pv W => ∃ c, Ix c pre (fun i => Pv i ∨ i = w.heap.size ∨ i = w.heap.size + 1) W ∧ w.heap.size + 2 ≤ W.heap.size ∧ ¬ Pv w.heap.size ∧ ¬ Pv (w.heap.size + 1) ∧ W.heap[w.heap.size + 1]? = some (.loop (rec .done (some c))) ∧ W.heap[w.heap.size]? = some (.deferred (some [])))
      V Cap (btr hb0 hbV) (fun _ h => h) ?_ ?_ (fun _ _ _ h => hG _ _ _ h.1) ?_ ⟨hIV, by omega, fun h => by have := hcap _ h; omega, fun h => by have := hcap _ h; omega, hLV, hDV⟩).mono ?_
    · rintro s Pv Pv' A B ⟨j1, j2, j3, j4, j5, j6⟩ hg hm
      exact ⟨hI s _ _ A B j1 (hg.mono fun i h => .inl h) (wide hm), Nat.le_trans j2 hg.size, fun h => (hm _ h).elim j3 (fun h => by omega), fun h => (hm _ h).elim j4 (fun h => by omega), hg.obj j5 j4, hg.obj j6 j3⟩
    · rintro s Pv Pv' A B ⟨c, j1, j2, j3, j4, j5, j6⟩ hg hm
      exact ⟨c, hIx c s _ _ A B j1 (hg.mono fun i h => .inl h) (wide hm), Nat.le_trans j2 hg.size, fun h => (hm _ h).elim j3 (fun h => by omega), fun h => (hm _ h).elim j4 (fun h => by omega), hg.obj j5 j4, hg.obj j6 j3⟩
    · rintro pre x Pv W hnx ⟨hi, hz, n1, n2, hl, hk⟩
      have hy := run_yield (P := P) (args := encs x) hl (by rw [hrec]; exact hps x)
      rw [hrec] at hy
      refine ⟨fn, _, assign, body, hy, roundIn_of_wpIn hfn (wpIn_mono (hround (w.heap.size + 1) pre x (fun i => Pv i ∨ i = w.heap.size ∨ i = w.heap.size + 1) W hnx hi (.inr (.inr rfl)) (by omega) ⟨_, hl⟩) ?_)⟩
      rintro e a2 W2 h2
      cases e with
      | normal =>
        obtain ⟨hm2, hbody⟩ := h2
        have hl2 := hm2.obj hl (.inr (.inr rfl))
        have hk2 := hm2.obj hk (.inr (.inl rfl))
        refine ⟨_, run_beginRound hl2 (by rw [hrec]), ?_⟩
        have hlB : (W2.putObj (w.heap.size + 1) (.loop { rec .ready none with state := .busy })).heap[w.heap.size + 1]? = some (.loop { rec .ready none with state := .busy }) := World.putObj_heap_same (Array.getElem?_eq_some_iff.1 hl2).1
        have hkB : (W2.putObj (w.heap.size + 1) (.loop { rec .ready none with state := .busy })).heap[w.heap.size]? = some (.deferred (some [])) := (World.putObj_heap_other (by omega)).trans hk2
        have hmB : ∀ W3, Mid (fun i => Pv i ∨ i = w.heap.size ∨ i = w.heap.size + 1) (W2.putObj (w.heap.size + 1) (.loop { rec .ready none with state := .busy })) W3 → ∀ o, Mid Pv W (W3.putObj (w.heap.size + 1) o) := fun W3 h o =>
          (hm2.mono fun i h => .inl h).trans ((Mid.of_grown (grownBy_putObj' W2 _ _) (fun r e => by cases e; exact n2)).trans ((h.mono fun i h => .inl h).trans (Mid.of_grown (grownBy_putObj' W3 _ _) (fun r e => by cases e; exact n2))))
        refine wpIn_mono (hbody _ (Goes.putObj W2 _ rfl) ⟨_, hlB⟩) ?_
        have fin : ∀ (jump : Option Code) (W3 : World), Mid (fun i => Pv i ∨ i = w.heap.size ∨ i = w.heap.size + 1) (W2.putObj (w.heap.size + 1) (.loop { rec .ready none with state := .busy })) W3 →
            (Instr.endRound (w.heap.size + 1) jump).run P W3 = .ok (.bool jump.isNone) (W3.putObj (w.heap.size + 1) (.loop (rec (if jump.isNone then .ready else .done) jump))) ∧
            (W3.putObj (w.heap.size + 1) (.loop (rec (if jump.isNone then .ready else .done) jump))).heap[w.heap.size + 1]? = some (.loop (rec (if jump.isNone then .ready else .done) jump)) ∧
            (W3.putObj (w.heap.size + 1) (.loop (rec (if jump.isNone then .ready else .done) jump))).heap[w.heap.size]? = some (.deferred (some [])) ∧
            w.heap.size + 2 ≤ (W3.putObj (w.heap.size + 1) (.loop (rec (if jump.isNone then .ready else .done) jump))).heap.size := fun jump W3 h => by
          have hl3 := h.obj hlB (.inr (.inr rfl))
          have hk3 := h.obj hkB (.inr (.inl rfl))
          have := run_endRound (P := P) jump hl3
          rw [hrec] at this ⊢
          refine ⟨this, World.putObj_heap_same (Array.getElem?_eq_some_iff.1 hl3).1, (World.putObj_heap_other (by omega)).trans hk3, ?_⟩
          have h4 := (Array.getElem?_eq_some_iff.1 hl3).1
          simp [World.putObj]; omega
        rintro e a3 W3 hp
        cases e with
        | normal =>
          obtain ⟨q1, q2⟩ := hp
          obtain ⟨f1, f2, f3, f4⟩ := fin none W3 q2
          exact ⟨_, _, f1, .inl ⟨rfl, ⟨hI _ _ _ _ _ q1 (Goes.putObj W3 _ (.inr (.inr rfl))) (More.same _ _ _), f4, n1, n2, f2, f3⟩, hmB W3 q2 _⟩⟩
        | ret =>
          obtain ⟨q1, q2⟩ := hp
          obtain ⟨f1, f2, f3, f4⟩ := fin (some .ret) W3 q2
          exact ⟨_, _, f1, .inr ⟨rfl, ⟨.ret, hIx _ _ _ _ _ _ q1 (Goes.putObj W3 _ (.inr (.inr rfl))) (More.same _ _ _), f4, n1, n2, f2, f3⟩, hmB W3 q2 _⟩⟩
        | exit id =>
          obtain ⟨q1, q2⟩ := hp
          obtain ⟨f1, f2, f3, f4⟩ := fin (some (.exit id)) W3 q2
          exact ⟨_, _, f1, .inr ⟨rfl, ⟨.exit id, hIx _ _ _ _ _ _ q1 (Goes.putObj W3 _ (.inr (.inr rfl))) (More.same _ _ _), f4, n1, n2, f2, f3⟩, hmB W3 q2 _⟩⟩
        | goto t =>
          obtain ⟨q1, q2⟩ := hp
          obtain ⟨f1, f2, f3, f4⟩ := fin (some (.goto t)) W3 q2
          exact ⟨_, _, f1, .inr ⟨rfl, ⟨.goto t, hIx _ _ _ _ _ _ q1 (Goes.putObj W3 _ (.inr (.inr rfl))) (More.same _ _ _), f4, n1, n2, f2, f3⟩, hmB W3 q2 _⟩⟩
        | panic _ => exact hp.elim
        | outgrown => exact hp.elim
      | ret => exact h2.elim
      | exit _ => exact h2.elim
      | goto _ => exact h2.elim
      | panic _ => exact h2.elim
      | outgrown => exact h2.elim
    · rintro e W2 ⟨⟨v, rfl⟩, (⟨xs, Pv, hS, hi, hz, n1, n2, hl, hk⟩ | ⟨pre, Pv, hSp, c, hi, hz, n1, n2, hl, hk⟩)⟩
      · exact ⟨none, _, by have := run_endLoop (P := P) hl (by rw [hrec]; simp); rw [hrec] at this; exact this, hdone _ xs _ _ (Nat.le_refl _) (.inr (.inl rfl)) hS (hI _ _ _ _ _ hi (Goes.putObj W2 _ (.inr (.inr rfl))) (More.same _ _ _)) ((World.putObj_heap_other (by omega)).trans hk)⟩
      · exact ⟨some c, _, by have := run_endLoop (P := P) hl (by rw [hrec]; simp); rw [hrec] at this; exact this, hstop _ c pre _ _ (Nat.le_refl _) (.inr (.inl rfl)) hSp (hIx c _ _ _ _ _ hi (Goes.putObj W2 _ (.inr (.inr rfl))) (More.same _ _ _)) ((World.putObj_heap_other (by omega)).trans hk)⟩
end Go.Proofs.YtgceecfjammnaaaDoor

/- Layer 16, plain: pools, what is pinned, paged. -/
namespace Go.Proofs.YtgceecfjammnaaaDoor.L16

/-- A snapshot. -/
structure Snp where
  c : Int
  it : List ByteArray
  u : Int
/-- A pool. -/
structure Pl where
  l : List Snp
  n : Int
def Pl.new : Pl := ⟨[], 1⟩
def Pl.nil : Pl := ⟨[], 0⟩
def itemsB (R : ByteArray → Bool) (l : List ByteArray) : Bool := decide (l.length ≤ 64) && l.all R
/-- Rising ticks, from one on. -/
def usedB : Int → List Snp → Bool
  | _, [] => true
  | a, s :: r => decide (a ≤ s.u ∧ s.u ≤ 1000000000000) && usedB s.u r
def rightP (R : ByteArray → Bool) (p : Pl) : Bool :=
  decide (1 ≤ p.n ∧ p.n ≤ 1000000000000) && decide (p.l.length ≤ 3) && p.l.all (fun s => itemsB R s.it) && usedB 0 p.l && p.l.all (fun s => decide (1 ≤ s.c ∧ s.c < p.n)) && decide ((p.l.map Snp.c).Nodup)
structure Rt (R : ByteArray → Bool) (p : Pl) : Prop where
  n1 : 1 ≤ p.n
  n2 : p.n ≤ 1000000000000
  len : p.l.length ≤ 3
  items : ∀ s ∈ p.l, itemsB R s.it = true
  used : usedB 0 p.l = true
  num : ∀ s ∈ p.l, 1 ≤ s.c ∧ s.c < p.n
  nd : (p.l.map Snp.c).Nodup
theorem right_iff {R : ByteArray → Bool} {p : Pl} : rightP R p = true ↔ Rt R p := by
  unfold rightP
  simp only [Bool.and_eq_true, decide_eq_true_eq, List.all_eq_true]
  constructor
  · rintro ⟨⟨⟨⟨⟨h1, h2⟩, h3⟩, h4⟩, h5⟩, h6⟩
    exact ⟨h1.1, h1.2, h2, h3, h4, h5, h6⟩
  · rintro ⟨h1, h2, h3, h4, h5, h6, h7⟩
    exact ⟨⟨⟨⟨⟨⟨h1, h2⟩, h3⟩, h4⟩, h5⟩, h6⟩, h7⟩
def lastU (l : List Snp) : Int := match l.getLast? with | none => 0 | some s => s.u
def nowB (p : Pl) (t : Int) : Bool := decide (lastU p.l ≤ t ∧ t ≤ 1000000000000)
def fresh (t : Int) (s : Snp) : Bool := decide (t - s.u < 1000)
def pinB (R : ByteArray → Bool) (p : Pl) (items : List ByteArray) (t : Int) : Bool := rightP R p && itemsB R items && decide (p.n < 1000000000000) && nowB p t
def stay (l : List Snp) : List Snp := if l.length = 3 then l.tail else l
def pinT (p : Pl) (items : List ByteArray) (t : Int) : Pl := ⟨stay (p.l.filter (fresh t)) ++ [⟨p.n, items, t⟩], p.n + 1⟩
def findS (p : Pl) (c : Int) : Option Snp := p.l.find? (fun s => decide (s.c = c))
def pageT (p : Pl) (c t : Int) (s : Snp) : Pl := ⟨p.l.filter (fun x => decide (x.c ≠ c)) ++ [{ s with u := t }], p.n⟩
def pageE (R : ByteArray → Bool) (p : Pl) (c frm n t : Int) : Int :=
  if (rightP R p && nowB p t) = true then
    if 1 ≤ n ∧ n ≤ 10 then
      match findS p c with
      | none => 161
      | some s => if t - s.u < 1000 ∧ 0 ≤ frm ∧ frm ≤ s.it.length then 0 else 161
    else 2
  else 160

-- ticks that rise
theorem usedB_mono {a b : Int} (h : a ≤ b) : ∀ {l : List Snp}, usedB b l = true → usedB a l = true
  | [], _ => rfl
  | s :: r, k => by
    simp only [usedB, Bool.and_eq_true, decide_eq_true_eq] at k ⊢
    exact ⟨⟨by omega, k.1.2⟩, k.2⟩
theorem usedB_lo {a : Int} : ∀ {l : List Snp}, usedB a l = true → ∀ s ∈ l, a ≤ s.u ∧ s.u ≤ 1000000000000
  | [], _, s, hs => nomatch hs
  | x :: r, k, s, hs => by
    simp only [usedB, Bool.and_eq_true, decide_eq_true_eq] at k
    rcases List.mem_cons.1 hs with rfl | hs
    · exact k.1
    · have := usedB_lo k.2 s hs
      exact ⟨by omega, this.2⟩
theorem usedB_filter {f : Snp → Bool} {a : Int} : ∀ {l : List Snp}, usedB a l = true → usedB a (l.filter f) = true
  | [], _ => rfl
  | s :: r, k => by
    simp only [usedB, Bool.and_eq_true, decide_eq_true_eq] at k
    rw [List.filter_cons]
    split
    · simp only [usedB, Bool.and_eq_true, decide_eq_true_eq]
      exact ⟨k.1, usedB_filter k.2⟩
    · exact usedB_mono k.1.1 (usedB_filter k.2)
theorem usedB_tail {a : Int} {l : List Snp} (h : usedB a l = true) : usedB a l.tail = true := by
  cases l with
  | nil => rfl
  | cons s r =>
    simp only [usedB, Bool.and_eq_true, decide_eq_true_eq] at h
    exact usedB_mono h.1.1 h.2
theorem usedB_snoc {t : Int} {s : Snp} (hs : s.u = t) (ht : t ≤ 1000000000000) : ∀ {l : List Snp} {a : Int}, usedB a l = true → a ≤ t → (∀ x ∈ l, x.u ≤ t) → usedB a (l ++ [s]) = true
  | [], a, _, ha, _ => by simp [usedB, hs, ha, ht]
  | x :: r, a, k, _, hx => by
    simp only [usedB, List.cons_append, Bool.and_eq_true, decide_eq_true_eq] at k ⊢
    exact ⟨k.1, usedB_snoc hs ht k.2 (hx x (List.mem_cons_self ..)) (fun y hy => hx y (List.mem_cons_of_mem _ hy))⟩
theorem usedB_le_last : ∀ {l : List Snp} {a : Int}, usedB a l = true → ∀ s ∈ l, s.u ≤ lastU l
  | [], _, _, s, hs => nomatch hs
  | [x], _, _, s, hs => by
    rcases List.mem_cons.1 hs with rfl | hs
    · exact Int.le_refl _
    · exact nomatch hs
  | x :: y :: r, a, k, s, hs => by
    simp only [usedB, Bool.and_eq_true, decide_eq_true_eq] at k
    have ih := @usedB_le_last (y :: r) x.u (by simp only [usedB, Bool.and_eq_true, decide_eq_true_eq]; exact k.2)
    have e : lastU (x :: y :: r) = lastU (y :: r) := by simp [lastU, List.getLast?_cons_cons]
    rw [e]
    rcases List.mem_cons.1 hs with rfl | hs
    · have := ih y (List.mem_cons_self ..)
      have := k.2.1.1
      omega
    · exact ih s hs
theorem lastU_snoc (l : List Snp) (s : Snp) : lastU (l ++ [s]) = s.u := by simp [lastU]
theorem stay_sub (l : List Snp) : ∀ s ∈ stay l, s ∈ l := by
  intro s hs
  unfold stay at hs
  split at hs
  · exact List.mem_of_mem_tail hs
  · exact hs
theorem stay_len {l : List Snp} (h : l.length ≤ 3) : (stay l).length ≤ 2 := by
  unfold stay
  split
  · rw [List.length_tail]; omega
  · omega
theorem stay_sublist (l : List Snp) : (stay l).Sublist l := by
  unfold stay
  split
  · exact List.tail_sublist l
  · exact List.Sublist.refl _
theorem usedB_stay {a : Int} {l : List Snp} (h : usedB a l = true) : usedB a (stay l) = true := by
  unfold stay
  split
  · exact usedB_tail h
  · exact h
/-- A pool that is right stays right when items are pinned. -/
theorem pin_right {R : ByteArray → Bool} {p : Pl} {items : List ByteArray} {t : Int} (h : pinB R p items t = true) : Rt R (pinT p items t) := by
  unfold pinB nowB at h
  simp only [Bool.and_eq_true, decide_eq_true_eq] at h
  obtain ⟨⟨⟨h1, h2⟩, h3⟩, h4, h5⟩ := h
  obtain ⟨n1, n2, len, it, us, nm, nd⟩ := right_iff.1 h1
  have hsub : ∀ s ∈ stay (p.l.filter (fresh t)), s ∈ p.l := fun s hs => (List.mem_filter.1 (stay_sub _ s hs)).1
  have hl : (p.l.filter (fresh t)).length ≤ 3 := Nat.le_trans (List.length_filter_le _ _) len
  have h0 : 0 ≤ t := by
    by_cases e : p.l = []
    · have : lastU p.l = 0 := by rw [e]; rfl
      omega
    · obtain ⟨s, hs⟩ := List.exists_mem_of_ne_nil _ e
      have := (usedB_lo us s hs).1
      have := usedB_le_last us s hs
      omega
  refine ⟨?_, ?_, ?_, ?_, ?_, ?_, ?_⟩
  · show 1 ≤ p.n + 1; omega
  · show p.n + 1 ≤ 1000000000000; omega
  · show (stay (p.l.filter (fresh t)) ++ [_]).length ≤ 3
    have := stay_len hl
    rw [List.length_append, List.length_singleton]; omega
  · intro s hs
    rcases List.mem_append.1 hs with hs | hs
    · exact it s (hsub s hs)
    · rw [List.mem_singleton] at hs; subst hs; exact h2
  · exact usedB_snoc rfl h5 (usedB_stay (usedB_filter us)) h0 (fun x hx => Int.le_trans (usedB_le_last us x (hsub x hx)) h4)
  · intro s hs
    show 1 ≤ s.c ∧ s.c < p.n + 1
    rcases List.mem_append.1 hs with hs | hs
    · have := nm s (hsub s hs); omega
    · rw [List.mem_singleton] at hs; subst hs; exact ⟨n1, by show p.n < p.n + 1; omega⟩
  · show ((stay (p.l.filter (fresh t)) ++ [_]).map Snp.c).Nodup
    rw [List.map_append, List.nodup_append]
    refine ⟨List.Sublist.nodup ((List.Sublist.map _ ((stay_sublist _).trans List.filter_sublist))) nd, by simp, ?_⟩
    intro a ha b hb e
    simp only [List.map_cons, List.map_nil, List.mem_singleton] at hb
    obtain ⟨s, hs, rfl⟩ := List.mem_map.1 ha
    have := (nm s (hsub s hs)).2
    omega
theorem find_mem {p : Pl} {c : Int} {s : Snp} (h : findS p c = some s) : s ∈ p.l ∧ s.c = c := ⟨List.mem_of_find?_eq_some h, by have := List.find?_some h; simpa using this⟩
/-- What is found is found alone. -/
theorem filter_len {R : ByteArray → Bool} {p : Pl} (r : Rt R p) {c : Int} {s : Snp} (h : findS p c = some s) : (p.l.filter (fun x => decide (x.c ≠ c))).length + 1 = p.l.length := by
  obtain ⟨hs, hc⟩ := find_mem h
  have nd := r.nd
  clear h r
  generalize p.l = L at *
  induction L with
  | nil => exact nomatch hs
  | cons x l ih =>
    simp only [List.map_cons, List.nodup_cons] at nd
    by_cases e : x.c = c
    · have hn : l.filter (fun x => decide (x.c ≠ c)) = l := List.filter_eq_self.2 (fun y hy => by
        have : y.c ≠ c := fun e2 => nd.1 (by rw [e, ← e2]; exact List.mem_map_of_mem hy)
        simpa using this)
      rw [List.filter_cons_of_neg (by simp [e]), hn, List.length_cons]
    · rw [List.filter_cons_of_pos (by simp [e]), List.length_cons, List.length_cons]
      rcases List.mem_cons.1 hs with rfl | hs
      · exact absurd hc e
      · rw [ih hs nd.2]
/-- A pool that is right stays right when it is paged. -/
theorem page_right {R : ByteArray → Bool} {p : Pl} {c t : Int} {s : Snp} (r : Rt R p) (hn : nowB p t = true) (h : findS p c = some s) : Rt R (pageT p c t s) ∧ (pageT p c t s).l.length = p.l.length := by
  unfold nowB at hn
  simp only [decide_eq_true_eq] at hn
  obtain ⟨n1, n2, len, it, us, nm, nd⟩ := r
  obtain ⟨hs, hc⟩ := find_mem h
  have hfl := filter_len ⟨n1, n2, len, it, us, nm, nd⟩ h
  have hsub : ∀ x ∈ p.l.filter (fun x => decide (x.c ≠ c)), x ∈ p.l := fun x hx => (List.mem_filter.1 hx).1
  have h0 := (usedB_lo us s hs).1
  have h1 := usedB_le_last us s hs
  have hl : (pageT p c t s).l.length = p.l.length := by
    unfold pageT
    simp only [List.length_append, List.length_singleton]
    exact hfl
  refine ⟨⟨n1, n2, by omega, ?_, ?_, ?_, ?_⟩, hl⟩
  · intro x hx
    rcases List.mem_append.1 hx with hx | hx
    · exact it x (hsub x hx)
    · rw [List.mem_singleton] at hx; subst hx; exact it s hs
  · exact usedB_snoc rfl hn.2 (usedB_filter us) (show (0 : Int) ≤ t by omega) (fun x hx => Int.le_trans (usedB_le_last us x (hsub x hx)) hn.1)
  · intro x hx
    rcases List.mem_append.1 hx with hx | hx
    · exact nm x (hsub x hx)
    · rw [List.mem_singleton] at hx; subst hx; exact nm s hs
  · unfold pageT
    rw [List.map_append, List.nodup_append]
    refine ⟨List.Sublist.nodup (List.Sublist.map _ List.filter_sublist) nd, by simp, ?_⟩
    intro a ha b hb e
    simp only [List.map_cons, List.map_nil, List.mem_singleton] at hb
    obtain ⟨x, hx, rfl⟩ := List.mem_map.1 ha
    have := (List.mem_filter.1 hx).2
    simp only [decide_eq_true_eq] at this
    exact this (by rw [e, hb]; exact hc)
end Go.Proofs.YtgceecfjammnaaaDoor.L16

/- Layer 16, plain: what the laws ask. -/
namespace Go.Proofs.YtgceecfjammnaaaDoor.L16

/-- What is pinned, stands last, and is found. -/
theorem find_snoc {l : List Snp} {s : Snp} (h : ∀ x ∈ l, x.c ≠ s.c) {n : Int} : findS ⟨l ++ [s], n⟩ s.c = some s := by
  unfold findS
  rw [List.find?_append]
  have : l.find? (fun x => decide (x.c = s.c)) = none := List.find?_eq_none.2 (fun x hx => by simpa using h x hx)
  rw [this]
  simp
theorem find_none {l : List Snp} {c : Int} (h : ∀ x ∈ l, x.c ≠ c) {n : Int} : findS ⟨l, n⟩ c = none := by
  unfold findS
  exact List.find?_eq_none.2 (fun x hx => by simpa using h x hx)
structure PinOk (R : ByteArray → Bool) (p : Pl) (items : List ByteArray) (t : Int) : Prop where
  r : Rt R p
  i : itemsB R items = true
  n : p.n < 1000000000000
  lo : lastU p.l ≤ t
  hi : t ≤ 1000000000000
theorem pin_iff {R : ByteArray → Bool} {p : Pl} {items : List ByteArray} {t : Int} : pinB R p items t = true ↔ PinOk R p items t := by
  unfold pinB nowB
  simp only [Bool.and_eq_true, decide_eq_true_eq, right_iff]
  constructor
  · rintro ⟨⟨⟨h1, h2⟩, h3⟩, h4, h5⟩; exact ⟨h1, h2, h3, h4, h5⟩
  · rintro ⟨h1, h2, h3, h4, h5⟩; exact ⟨⟨⟨h1, h2⟩, h3⟩, h4, h5⟩
theorem stay_filter_mem {p : Pl} {t : Int} {s : Snp} (h : s ∈ stay (p.l.filter (fresh t))) : s ∈ p.l ∧ fresh t s = true := List.mem_filter.1 (stay_sub _ s h)
theorem pin_find {R : ByteArray → Bool} {p : Pl} {items : List ByteArray} {t : Int} (h : PinOk R p items t) : findS (pinT p items t) p.n = some ⟨p.n, items, t⟩ :=
  find_snoc (s := ⟨p.n, items, t⟩) (fun x hx e => by have := (h.r.num x (stay_filter_mem hx).1).2; simp only at e; omega)
theorem pin_last {p : Pl} {items : List ByteArray} {t : Int} : lastU (pinT p items t).l = t := lastU_snoc _ _
theorem pin_now {p : Pl} {items : List ByteArray} {t t' : Int} (h : t ≤ t') (h2 : t' ≤ 1000000000000) : nowB (pinT p items t) t' = true := by
  unfold nowB; rw [pin_last]; simp [h, h2]
/-- A page's answer, by what is found. -/
theorem page_ok {R : ByteArray → Bool} {p : Pl} {c frm n t : Int} {s : Snp} (r : Rt R p) (hn : nowB p t = true) (hf : findS p c = some s) (h1 : 1 ≤ n) (h2 : n ≤ 10) (hu : t - s.u < 1000) (f0 : 0 ≤ frm) (f1 : frm ≤ s.it.length) : pageE R p c frm n t = 0 := by
  unfold pageE
  rw [right_iff.2 r, hn]
  simp [h1, h2, hf, hu, f0, f1]
theorem page_old {R : ByteArray → Bool} {p : Pl} {c frm n t : Int} (r : Rt R p) (hn : nowB p t = true) (h1 : 1 ≤ n) (h2 : n ≤ 10) (h : ∀ s, findS p c = some s → ¬ t - s.u < 1000) : pageE R p c frm n t = 161 := by
  unfold pageE
  rw [right_iff.2 r, hn]
  simp only [Bool.and_self, if_true, h1, h2, and_self]
  cases hf : findS p c with
  | none => rfl
  | some s => simp only [h s hf, false_and, if_false]
structure PageOk (R : ByteArray → Bool) (p : Pl) (c frm n t : Int) (s : Snp) : Prop where
  r : Rt R p
  now : nowB p t = true
  n1 : 1 ≤ n
  n2 : n ≤ 10
  f : findS p c = some s
  u : t - s.u < 1000
  f0 : 0 ≤ frm
  f1 : frm ≤ s.it.length
theorem page_iff {R : ByteArray → Bool} {p : Pl} {c frm n t : Int} : pageE R p c frm n t = 0 ↔ ∃ s, PageOk R p c frm n t s := by
  constructor
  · intro h
    unfold pageE at h
    split at h
    · rename_i h1
      simp only [Bool.and_eq_true] at h1
      split at h
      · rename_i h2
        cases hf : findS p c with
        | none => rw [hf] at h; simp at h
        | some s =>
          rw [hf] at h
          simp only at h
          split at h
          · rename_i h3
            exact ⟨s, right_iff.1 h1.1, h1.2, h2.1, h2.2, hf, h3.1, h3.2.1, h3.2.2⟩
          · simp at h
      · simp at h
    · simp at h
  · rintro ⟨s, h1, h2, h3, h4, h5, h6, h7, h8⟩
    exact page_ok h1 h2 h5 h3 h4 h6 h7 h8
/-- Behind a page its snapshot stands last, Used now. -/
theorem page_find {R : ByteArray → Bool} {p : Pl} {c frm n t : Int} {s : Snp} (h : PageOk R p c frm n t s) : findS (pageT p c t s) c = some ⟨c, s.it, t⟩ := by
  have hc := (find_mem h.f).2
  have e : pageT p c t s = ⟨p.l.filter (fun x => decide (x.c ≠ c)) ++ [⟨c, s.it, t⟩], p.n⟩ := by
    show (⟨p.l.filter (fun x => decide (x.c ≠ c)) ++ [⟨s.c, s.it, t⟩], p.n⟩ : Pl) = _
    rw [hc]
  rw [e]
  exact find_snoc (s := ⟨c, s.it, t⟩) (fun x hx => by simpa using (List.mem_filter.1 hx).2)
theorem page_last {p : Pl} {c t : Int} {s : Snp} : lastU (pageT p c t s).l = t := lastU_snoc _ _
theorem page_now {p : Pl} {c t t' : Int} {s : Snp} (h : t ≤ t') (h2 : t' ≤ 1000000000000) : nowB (pageT p c t s) t' = true := by
  unfold nowB; rw [page_last]; simp [h, h2]
theorem nowB_hi {p : Pl} {t : Int} (h : nowB p t = true) : t ≤ 1000000000000 := by
  unfold nowB at h; simp only [decide_eq_true_eq] at h; exact h.2
/-- A page once more, at the same tick. -/
theorem page_again {R : ByteArray → Bool} {p : Pl} {c frm n t : Int} {s : Snp} (h : PageOk R p c frm n t s) {frm' n' : Int} (h1 : 1 ≤ n') (h2 : n' ≤ 10) (f0 : 0 ≤ frm') (f1 : frm' ≤ s.it.length) : PageOk R (pageT p c t s) c frm' n' t ⟨c, s.it, t⟩ :=
  ⟨(page_right h.r h.now h.f).1, page_now (Int.le_refl _) (nowB_hi h.now), h1, h2, page_find h, by show t - t < 1000; omega, f0, f1⟩
/-- What a page tells. -/
def pageI (s : Snp) (frm n : Int) : List ByteArray := (s.it.drop frm.toNat).take n.toNat
def pageN (s : Snp) (frm n : Int) : Int := if frm + n ≥ s.it.length then -1 else frm + n
theorem page_two {s : Snp} {frm a b : Int} (h0 : 0 ≤ frm) (ha : 1 ≤ a) (hb : 1 ≤ b) (h : pageN s frm a ≠ -1) : pageI s frm (a + b) = pageI s frm a ++ pageI s (frm + a) b ∧ pageN s frm (a + b) = pageN s (frm + a) b ∧ pageN s frm a = frm + a ∧ frm + a < s.it.length := by
  unfold pageN at h
  split at h
  · exact absurd rfl h
  · refine ⟨?_, ?_, ?_, by omega⟩
    · unfold pageI
      rw [show (a + b).toNat = a.toNat + b.toNat by omega, List.take_add, List.drop_drop, show (frm + a).toNat = frm.toNat + a.toNat by omega]
    · unfold pageN; rw [Int.add_assoc]
    · unfold pageN; rw [if_neg (by omega)]
theorem page_one {s : Snp} {frm a b : Int} (h0 : 0 ≤ frm) (ha : 1 ≤ a) (hb : 1 ≤ b) (h : pageN s frm a = -1) : pageI s frm (a + b) = pageI s frm a ∧ pageN s frm (a + b) = -1 := by
  unfold pageN at h
  split at h
  · rename_i h1
    refine ⟨?_, by unfold pageN; rw [if_pos (by omega)]⟩
    unfold pageI
    rw [List.take_of_length_le (by rw [List.length_drop]; omega), List.take_of_length_le (by rw [List.length_drop]; omega)]
  · omega
/-- Three others, and it is gone. -/
theorem fresh_self (t : Int) (c : Int) (i : List ByteArray) : fresh t ⟨c, i, t⟩ = true := by unfold fresh; simp
theorem filter_stay {l : List Snp} {t : Int} (h : ∀ x ∈ l, fresh t x = true) : l.filter (fresh t) = l := List.filter_eq_self.2 h
theorem pin_fresh {p : Pl} {items : List ByteArray} {t : Int} : ∀ x ∈ (pinT p items t).l, fresh t x = true := by
  intro x hx
  rcases List.mem_append.1 hx with hx | hx
  · exact (stay_filter_mem hx).2
  · rw [List.mem_singleton] at hx; subst hx; exact fresh_self _ _ _
theorem pin_pin {p : Pl} {items i2 : List ByteArray} {t : Int} : (pinT (pinT p items t) i2 t).l = stay (pinT p items t).l ++ [⟨p.n + 1, i2, t⟩] := by
  show stay ((pinT p items t).l.filter (fresh t)) ++ _ = _
  rw [filter_stay pin_fresh]; rfl
theorem pin_len {R : ByteArray → Bool} {p : Pl} {t : Int} (h : Rt R p) : (stay (p.l.filter (fresh t))).length ≤ 2 := stay_len (Nat.le_trans (List.length_filter_le _ _) h.len)
theorem stay_snoc2 {A : List Snp} {x : Snp} (h : A.length ≤ 2) : ∃ A', stay (A ++ [x]) = A' ++ [x] ∧ A'.length ≤ 1 := by
  match A, h with
  | [], _ => exact ⟨[], rfl, by simp⟩
  | [a], _ => exact ⟨[a], rfl, by simp⟩
  | [a, b], _ => exact ⟨[b], rfl, by simp⟩
theorem stay_snoc1 {A : List Snp} {x y : Snp} (h : A.length ≤ 1) : stay (A ++ [x] ++ [y]) = [x, y] := by
  match A, h with
  | [], _ => rfl
  | [a], _ => rfl
theorem pins_two {R : ByteArray → Bool} {p : Pl} {items : List ByteArray} {t : Int} (h : Rt R p) : ∃ A', A'.length ≤ 1 ∧ (pinT (pinT p items t) items t).l = A' ++ [⟨p.n, items, t⟩] ++ [⟨p.n + 1, items, t⟩] := by
  rw [pin_pin]
  obtain ⟨A', e, hl⟩ := stay_snoc2 (x := ⟨p.n, items, t⟩) (pin_len (t := t) h)
  exact ⟨A', hl, by rw [← e]; rfl⟩
theorem pins_three {R : ByteArray → Bool} {p : Pl} {items : List ByteArray} {t : Int} (h : Rt R p) : (pinT (pinT (pinT p items t) items t) items t).l = [⟨p.n, items, t⟩, ⟨p.n + 1, items, t⟩, ⟨p.n + 1 + 1, items, t⟩] := by
  obtain ⟨A', hl, e⟩ := pins_two (items := items) (t := t) h
  rw [pin_pin, e, stay_snoc1 hl]; rfl
theorem pins_four {R : ByteArray → Bool} {p : Pl} {items : List ByteArray} {t : Int} (h : Rt R p) : (pinT (pinT (pinT (pinT p items t) items t) items t) items t).l = [⟨p.n + 1, items, t⟩, ⟨p.n + 1 + 1, items, t⟩, ⟨p.n + 1 + 1 + 1, items, t⟩] := by
  rw [pin_pin, pins_three h]; rfl
theorem pin_again {R : ByteArray → Bool} {p : Pl} {items : List ByteArray} {t : Int} (h : PinOk R p items t) (hn : p.n + 1 < 1000000000000) : PinOk R (pinT p items t) items t :=
  ⟨pin_right (pin_iff.2 h), h.i, hn, by rw [pin_last]; exact Int.le_refl _, h.hi⟩
/-- A walk: what was paged stays while others are pinned, less than a thousand ticks on. -/
theorem walk_pin {R : ByteArray → Bool} {l : List Snp} {n c u t : Int} {it o : List ByteArray} (h : PinOk R ⟨l ++ [⟨c, it, u⟩], n⟩ o t) (hu : t - u < 1000) : findS (pinT ⟨l ++ [⟨c, it, u⟩], n⟩ o t) c = some ⟨c, it, u⟩ := by
  have hc := (h.r.num ⟨c, it, u⟩ (by simp)).2
  have hnd := h.r.nd
  simp only [List.map_append, List.map_cons, List.map_nil, List.nodup_append] at hnd
  have hne : ∀ x ∈ l, x.c ≠ c := fun x hx e => hnd.2.2 x.c (List.mem_map_of_mem hx) c (by simp) e
  have hf : (l ++ [(⟨c, it, u⟩ : Snp)]).filter (fresh t) = l.filter (fresh t) ++ [⟨c, it, u⟩] := by
    rw [List.filter_append]
    congr 1
    rw [List.filter_cons_of_pos (by unfold fresh; simpa using hu)]
    rfl
  have hl : (l.filter (fresh t)).length ≤ 2 := by
    have := h.r.len
    simp only [List.length_append, List.length_singleton] at this
    exact Nat.le_trans (List.length_filter_le _ _) (by omega)
  obtain ⟨A', e, _⟩ := stay_snoc2 (x := ⟨c, it, u⟩) hl
  unfold pinT
  simp only
  rw [hf, e, List.append_assoc]
  have hA : ∀ x ∈ A', x.c ≠ c := fun x hx => by
    have h1 : x ∈ stay (l.filter (fresh t) ++ [⟨c, it, u⟩]) := by rw [e]; exact List.mem_append_left _ hx
    have h2 := stay_sub _ x h1
    rcases List.mem_append.1 h2 with h2 | h2
    · exact hne x (List.mem_filter.1 h2).1
    · -- it stands there once
      have hnd2 : ((stay (l.filter (fresh t) ++ [⟨c, it, u⟩])).map Snp.c).Nodup := by
        rw [← hf]
        exact List.Sublist.nodup (List.Sublist.map _ ((stay_sublist _).trans List.filter_sublist)) h.r.nd
      rw [e, List.map_append, List.nodup_append] at hnd2
      intro ec
      exact hnd2.2.2 x.c (List.mem_map_of_mem hx) c (by simp) ec
  unfold findS
  rw [List.find?_append]
  have : A'.find? (fun x => decide (x.c = c)) = none := List.find?_eq_none.2 (fun x hx => by simpa using hA x hx)
  rw [this]
  simp
/-- Pages, one behind the other. -/
theorem walk_take {it : List ByteArray} {frm n : Int} (h0 : 0 ≤ frm) (hn : 1 ≤ n) : it.take frm.toNat ++ (it.drop frm.toNat).take n.toNat = it.take (frm + n).toNat := by
  rw [show (frm + n).toNat = frm.toNat + n.toNat by omega, List.take_add]
theorem walk_next {s : Snp} {frm n : Int} (h0 : 0 ≤ frm) (hn : 1 ≤ n) (h : pageN s frm n ≠ -1) : s.it.take frm.toNat ++ pageI s frm n = s.it.take (pageN s frm n).toNat ∧ pageN s frm n = frm + n ∧ frm + n < s.it.length := by
  unfold pageN at h ⊢
  split at h
  · exact absurd rfl h
  · rename_i h1
    rw [if_neg h1]
    exact ⟨walk_take h0 hn, rfl, by omega⟩
theorem walk_end {s : Snp} {frm n : Int} (h0 : 0 ≤ frm) (hn : 1 ≤ n) (h : pageN s frm n = -1) : s.it.take frm.toNat ++ pageI s frm n = s.it := by
  unfold pageN at h
  split at h
  · unfold pageI
    rw [walk_take h0 hn, List.take_of_length_le (by omega)]
  · omega
end Go.Proofs.YtgceecfjammnaaaDoor.L16

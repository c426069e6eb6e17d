/- It, F, By, Ck -/
import Derived.Test.YtikpmkidfppknaaGreatDoorZ0
import Derived.Laws.Tables
import Derived.Lib.BufferWrite
import Derived.Deep.WholeRow
import Derived.Laws.MakeOwn
import Derived.Laws.CopyOwn
set_option linter.unusedVariables false
set_option linter.unusedSimpArgs false
/- A range over a function of any kind: the iterator may make and write memory of its own, the body may write what is the caller's and make more. -/
namespace Go.Proofs.YtikpmkidfppknaaGreatDoor
open Go.RowKit

section
variable {F : Fence} {n : Nat} {P : Program} {b : Frame} {a : Act} {k : List Item} {cs : List Frame} {w : World} {Q : Exit → Act → World → Prop}

theorem stepR_scope {c : Code} : step P (lone (b.atR a (.code (.scope c) :: k)) cs w) = .next (lone (b.atR a (.code c :: .inScope c :: k)) cs w) :=
  step_lone_go (by simp [stepG, stepG.exec, Frame.atR])
theorem stepR_inScope {c : Code} : step P (lone (b.atR a (.inScope c :: k)) cs w) = .next (lone (b.atR a k) cs w) :=
  step_lone_go (by simp [stepG, stepG.exec, Frame.atR])

/-- A scope through which the run goes without a goto, inside a fence. -/
theorem wpIn_scope_straight {c : Code} (h : c.wpIn F n P (Exit.noGoto Q) a w) : (Code.scope c).wpIn F n P Q a w := by
  intro b k cs hro hb hr
  have h0 : (lone (b.atR a (.code (.scope c) :: k)) cs w).fenced P F := fenced_calm hb hr rfl
  obtain ⟨e, a₁, w₁, hq, harr⟩ := h b (.inScope c :: k) cs hro hb hr
  cases e with
  | normal => exact ⟨.normal, a₁, w₁, hq, .head h0 stepR_scope (StepsIn.trans harr (.one (fenced_calm hb hr rfl) stepR_inScope))⟩
  | exit id =>
    have hx : exitTo id (.inScope c :: k) = exitTo id k := by simp [exitTo]
    exact ⟨.exit id, a₁, w₁, hq, fun k' hk => .head h0 stepR_scope (harr.1 k' (by rw [hx]; exact hk)),
      fun hr' hk => let ⟨k₁, h1, h2⟩ := harr.2 hr' (by rw [hx]; exact hk); ⟨k₁, h1, .head h0 stepR_scope h2⟩⟩
  | goto l => exact hq.elim
  | ret => exact ⟨_, a₁, w₁, hq, .of_steps (.one h0 stepR_scope) harr⟩
  | panic ch => exact ⟨_, a₁, w₁, hq, .of_steps (.one h0 stepR_scope) harr⟩
  | outgrown => exact ⟨_, a₁, w₁, hq, .of_steps (.one h0 stepR_scope) harr⟩
end

/-- All that is not private lies as it lay. -/
structure Goes (Pv : Nat → Prop) (A B : World) : Prop where
  os : B.os = A.os
  tape : B.tape = A.tape
  output : B.output = A.output
  size : A.heap.size ≤ B.heap.size
  same : ∀ i, i < A.heap.size → ¬ Pv i → B.heap[i]? = A.heap[i]?
theorem Goes.refl (Pv : Nat → Prop) (A : World) : Goes Pv A A := ⟨rfl, rfl, rfl, Nat.le_refl _, fun _ _ _ => rfl⟩
theorem Goes.trans {Pv : Nat → Prop} {A B C : World} (h : Goes Pv A B) (k : Goes Pv B C) : Goes Pv A C :=
  ⟨k.os.trans h.os, k.tape.trans h.tape, k.output.trans h.output, Nat.le_trans h.size k.size, fun i hi hp => (k.same i (Nat.lt_of_lt_of_le hi h.size) hp).trans (h.same i hi hp)⟩
theorem Goes.of_below {Pv : Nat → Prop} {A B : World} (h : Below A.heap.size A B) : Goes Pv A B := ⟨h.os, h.tape, h.output, h.size, fun i hi _ => h.block i hi⟩
theorem Goes.of_grown {Pv : Nat → Prop} {A B : World} {row : Option Nat} (h : A.grownBy B row) (hr : ∀ r, row = some r → Pv r) : Goes Pv A B :=
  ⟨h.os, h.tape, h.output, h.size, fun i hi hp => h.block i hi (fun e => hp (hr i e.symm))⟩
theorem Goes.mono {Pv Pv' : Nat → Prop} {A B : World} (h : Goes Pv A B) (hp : ∀ i, Pv i → Pv' i) : Goes Pv' A B := ⟨h.os, h.tape, h.output, h.size, fun i hi h' => h.same i hi (fun k => h' (hp i k))⟩
theorem Goes.putObj {Pv : Nat → Prop} (W : World) {l : Nat} (o : Obj) (hl : Pv l) : Goes Pv W (W.putObj l o) := Goes.of_grown (grownBy_putObj' W l o) (fun _ e => by cases e; exact hl)
theorem Goes.alloc (Pv : Nat → Prop) (W : World) (o : Obj) : Goes Pv W (W.alloc o) := Goes.of_below (below_alloc W o)
theorem Goes.obj {Pv : Nat → Prop} {A B : World} {i : Nat} {o : Obj} (h : Goes Pv A B) (hi : A.heap[i]? = some o) (hp : ¬ Pv i) : B.heap[i]? = some o := (h.same i (Array.getElem?_eq_some_iff.1 hi).1 hp).trans hi
theorem Goes.cell {Pv : Nat → Prop} {A B : World} {b o : Nat} {v : Value} (h : Goes Pv A B) (hc : A.cell? ⟨b, o, none⟩ = some v) (hp : ¬ Pv b) : B.cell? ⟨b, o, none⟩ = some v := (World.cell?_of_block (w := A) (h.same b (blt hc) hp)).trans hc
theorem Goes.frozen {Pv : Nat → Prop} {A B : World} {b o : Nat} {v : Value} (h : Goes Pv A B) (hc : A.cell? ⟨b, o, none⟩ = some v) (hp : ¬ Pv b) : B.frozen? ⟨b, o, none⟩ = A.frozen? ⟨b, o, none⟩ := World.frozen?_of_block (w := A) (h.same b (blt hc) hp)
theorem Goes.below {Pv : Nat → Prop} {w A B : World} (h : Goes Pv A B) (hb : Below w.heap.size w A) (hp : ∀ i, Pv i → w.heap.size ≤ i) : Below w.heap.size w B :=
  ⟨h.os.trans hb.os, h.tape.trans hb.tape, h.output.trans hb.output, Nat.le_trans hb.size h.size, fun i hi => (h.same i (Nat.lt_of_lt_of_le hi hb.size) (fun k => by have := hp i k; omega)).trans (hb.block i hi)⟩
/-- A row that is no private block is owned on. -/
theorem Goes.ownsRow {Pv : Nat → Prop} {A B : World} {base : Nat} {e : TypeId} {size : Nat} {v : Value} {k : Nat} {xs : List Value} (h : Goes Pv A B) (hr : A.ownsRow base e size v k xs) (hp : ∀ b, v.ownBlock = some b → ¬ Pv b) : B.ownsRow base e size v k xs := by
  rcases hr with ⟨h1, h2 | ⟨g, cap, cur, rfl, h3, h4, h5⟩⟩
  · exact ⟨h1, .inl h2⟩
  · exact ⟨h1, .inr ⟨g, cap, cur, rfl, h3, h.obj h4 (hp g rfl), h5⟩⟩

/-- All that is private lies as it lay. -/
structure Mid (Pv : Nat → Prop) (A B : World) : Prop where
  size : A.heap.size ≤ B.heap.size
  same : ∀ i, i < A.heap.size → Pv i → B.heap[i]? = A.heap[i]?
theorem Mid.refl (Pv : Nat → Prop) (A : World) : Mid Pv A A := ⟨Nat.le_refl _, fun _ _ _ => rfl⟩
theorem Mid.trans {Pv : Nat → Prop} {A B C : World} (h : Mid Pv A B) (k : Mid Pv B C) : Mid Pv A C := ⟨Nat.le_trans h.size k.size, fun i hi hp => (k.same i (Nat.lt_of_lt_of_le hi h.size) hp).trans (h.same i hi hp)⟩
theorem Mid.of_below {Pv : Nat → Prop} {A B : World} (h : Below A.heap.size A B) : Mid Pv A B := ⟨h.size, fun i hi _ => h.block i hi⟩
theorem Mid.of_grown {Pv : Nat → Prop} {A B : World} {row : Option Nat} (h : A.grownBy B row) (hr : ∀ r, row = some r → ¬ Pv r) : Mid Pv A B :=
  ⟨h.size, fun i hi hp => h.block i hi (fun e => hr i e.symm hp)⟩
theorem Mid.mono {Pv Pv' : Nat → Prop} {A B : World} (h : Mid Pv A B) (hp : ∀ i, Pv' i → Pv i) : Mid Pv' A B := ⟨h.size, fun i hi k => h.same i hi (hp i k)⟩
theorem Mid.obj {Pv : Nat → Prop} {A B : World} {i : Nat} {o : Obj} (h : Mid Pv A B) (hi : A.heap[i]? = some o) (hp : Pv i) : B.heap[i]? = some o := (h.same i (Array.getElem?_eq_some_iff.1 hi).1 hp).trans hi
theorem Mid.cell {Pv : Nat → Prop} {A B : World} {b o : Nat} {v : Value} (h : Mid Pv A B) (hc : A.cell? ⟨b, o, none⟩ = some v) (hp : Pv b) : B.cell? ⟨b, o, none⟩ = some v := (World.cell?_of_block (w := A) (h.same b (blt hc) hp)).trans hc
theorem Mid.setCell {Pv : Nat → Prop} {A B : World} {b o : Nat} (h : Mid Pv A B) (v : Value) (hp : ¬ Pv b) : Mid Pv A (B.setCell ⟨b, o, none⟩ v) :=
  h.trans ⟨(KeepsWalks.setCell B _ v).size, fun i _ k => Below.heap_setCell B ⟨b, o, none⟩ v i (fun e => hp (by rw [show b = i from e.symm]; exact k))⟩
theorem Mid.alloc {Pv : Nat → Prop} {A B : World} (h : Mid Pv A B) (o : Obj) : Mid Pv A (B.alloc o) := h.trans (Mid.of_below (below_alloc B o))

/-- What is left private, and more: whatever was private, or was made. -/
def More (Pv Pv' : Nat → Prop) (A B : World) : Prop := ∀ i, Pv' i → Pv i ∨ (A.heap.size ≤ i ∧ i < B.heap.size)
theorem More.same (Pv : Nat → Prop) (A B : World) : More Pv Pv A B := fun _ h => .inl h
/-- What the caller's invariant abides. -/
def Steady {β : Type} (J : β → (Nat → Prop) → World → Prop) : Prop := ∀ s Pv Pv' A B, J s Pv A → Goes Pv A B → More Pv Pv' A B → J s Pv' B

/-- The contract of an iterator that may make and write memory of its own. -/
def Iters {α : Type} (F : Fence) (n : Nat) (P : Program) (g : Nat) (lb : Array Value) (encs : α → Array Value) (Nx : List α → α → Prop) (S Sp : List α → Prop) (Cap : Nat → Prop) (w : World) : Prop :=
  ∀ (l : Nat) (J Jx : List α → (Nat → Prop) → World → Prop) (W : World) (Pv : Nat → Prop), Below w.heap.size w W → (∀ i, Cap i → Pv i) → Steady J → Steady Jx →
    (∀ pre x Pv W1, Nx pre x → J pre Pv W1 → YieldAt F (n - 1) P l (encs x) W1 fun e W' =>
      (e = .returned (.bool true) ∧ J (pre ++ [x]) Pv W' ∧ Mid Pv W1 W') ∨ (e = .returned (.bool false) ∧ Jx (pre ++ [x]) Pv W' ∧ Mid Pv W1 W')) →
    J [] Pv W →
    CallsIn F n P g (#[.func (.yield l) #[] #[]] ++ lb) W fun e W' => (∃ v, e = .returned v) ∧ ((∃ xs Pv, S xs ∧ J xs Pv W') ∨ (∃ pre Pv, Sp pre ∧ Jx pre Pv W'))
theorem Iters.later {α : Type} {F : Fence} {n : Nat} {P : Program} {g : Nat} {lb : Array Value} {encs : α → Array Value} {Nx : List α → α → Prop} {S Sp : List α → Prop} {Cap : Nat → Prop} {w w' : World}
    (h : Iters F n P g lb encs Nx S Sp Cap w) (hb : Below w.heap.size w w') : Iters F n P g lb encs Nx S Sp Cap w' :=
  fun l J Jx W Pv hW hc hJ hJx hY h0 => h l J Jx W Pv (btr hb hW) hc hJ hJx hY h0

/-- How a round may be left. -/
def itPost {β : Type} (I : β → (Nat → Prop) → World → Prop) (Ix : Code → β → (Nat → Prop) → World → Prop) (xs : β) (Pv : Nat → Prop) (W : World) : Exit → Act → World → Prop
  | .normal, _, W' => I xs Pv W' ∧ Mid Pv W W'
  | .ret, _, W' => Ix .ret xs Pv W' ∧ Mid Pv W W'
  | .exit id, _, W' => Ix (.exit id) xs Pv W' ∧ Mid Pv W W'
  | .goto t, _, W' => Ix (.goto t) xs Pv W' ∧ Mid Pv W W'
  | .panic _, _, _ => False
  | .outgrown, _, _ => False

/-- The range itself. -/
theorem wpIn_range_iters {F : Fence} {n : Nat} {P : Program} {α : Type} {g : Operand} {ps : Array Tmp} {assign body : Code} {Q : Exit → Act → World → Prop} {a : Act} {w : World}
    (hro : F.round = none) (h1 : 1 ≤ n) {gf : Nat} {lb : Array Value} (hg : a.eval g = .func (.func gf) #[] lb) (hFg : F.fn gf) (eg : ∀ args w, (callFunc gf args).run P w = .ok (.enter gf args) w)
    {encs : α → Array Value} {Nx : List α → α → Prop} {S Sp : List α → Prop} {Cap : Nat → Prop} {w0 : World} (hseq : Iters F (n - 1) P gf lb encs Nx S Sp Cap w0) (hb0 : Below w0.heap.size w0 w) (hps : ∀ x, (encs x).size = ps.size) (hcap : ∀ i, Cap i → i < w.heap.size)
    (I : List α → (Nat → Prop) → World → Prop) (Ix : Code → List α → (Nat → Prop) → World → Prop) (hI : Steady I) (hIx : ∀ c, Steady (Ix c)) (h0 : I [] Cap w)
    (hround : ∀ (l : Nat) (pre : List α) (x : α) (Pv : Nat → Prop) (W : World), Nx pre x → I pre Pv W → Pv l → w.heap.size ≤ l → (∃ r, W.heap[l]? = some (.loop r)) →
      assign.wpIn (F.inRound l) (n - 1 - 1) P (Exit.then (fun a' W' => Mid Pv W W' ∧ ∀ W'', Goes (fun i => i = l) W' W'' → (∃ r, W''.heap[l]? = some (.loop r)) →
        body.wpIn (F.inRound l) (n - 1 - 1) P (itPost I Ix (pre ++ [x]) Pv W'') a' W'') (fun _ _ _ => False)) { tmps := (ps.zip (encs x)).foldl (fun t (p, v) => t.setIfInBounds p v) a.tmps, defers := [] } W)
    (hdone : ∀ (D : Nat) (xs : List α) (Pv : Nat → Prop) (W : World), w.heap.size ≤ D → Pv D → S xs → I xs Pv W → W.heap[D]? = some (.deferred (some [])) → Q .normal { a with defers := { target := .collected D, args := #[] } :: a.defers } W)
    (hstop : ∀ (D : Nat) (c : Code) (pre : List α) (Pv : Nat → Prop) (W : World), w.heap.size ≤ D → Pv D → Sp pre → Ix c pre Pv W → W.heap[D]? = some (.deferred (some [])) → c.wpIn F n P Q { a with defers := { target := .collected D, args := #[] } :: a.defers } W) :
    (Code.rangeFunc g ps assign body).wpIn F n P Q a w := by
  refine wpIn_rangeFunc ?_
  intro fn hfn
  rw [hro]
  obtain ⟨rec, hrec⟩ : ∃ rec : LoopState → Option Code → Loop, rec = fun st pe => { state := st, pending := pe, fn, tmps := a.tmps, params := ps, assign, body, defers := w.heap.size } := ⟨_, rfl⟩
  let V := (w.alloc (.deferred (some []))).alloc (.loop (rec .ready none))
  have hVs : V.heap.size = w.heap.size + 2 := by simp [V]
  have hLV : V.heap[w.heap.size + 1]? = some (.loop (rec .ready none)) := by
    have := World.alloc_heap_new (w.alloc (.deferred (some []))) (.loop (rec .ready none)); rwa [World.size_alloc] at this
  have hDV : V.heap[w.heap.size]? = some (.deferred (some [])) := (Below.heap_alloc _ _ _ (by simp)).trans (World.alloc_heap_new w _)
  have hbV : Below w.heap.size w V := bal (below_alloc w _) _
  let Pv0 : Nat → Prop := fun i => Cap i ∨ i = w.heap.size ∨ i = w.heap.size + 1
  have hIV : I [] Pv0 V := hI _ _ _ _ _ h0 (Goes.of_below hbV) (fun i h => by rcases h with h | rfl | rfl; exact .inl h; exact .inr ⟨by omega, by omega⟩; exact .inr ⟨by omega, by omega⟩)
  have wide : ∀ {Pv Pv' : Nat → Prop} {A B : World}, More Pv Pv' A B → More (fun i => Pv i ∨ i = w.heap.size ∨ i = w.heap.size + 1) (fun i => Pv' i ∨ i = w.heap.size ∨ i = w.heap.size + 1) A B := fun hm i h => by
    rcases h with h | h
    · exact (hm i h).elim (fun k => .inl (.inl k)) .inr
    · exact .inl (.inr h)
  refine ⟨w.heap.size + 1, [{ target := .collected w.heap.size, args := #[] }], V, { target := .fn (.func gf) lb, args := #[.func (.yield (w.heap.size + 1)) #[] #[]] }, V, gf,
    #[.func (.yield (w.heap.size + 1)) #[] #[]] ++ lb, V, ?_, ?_, ?_, ?_, fun _ => h1, ?_⟩
  · rw [show V = (w.alloc (.deferred (some []))).alloc (.loop (rec .ready none)) from rfl, hrec]; exact run_enterLoop_outer _ _ _ _ _
  · simp only [resolve, hg]
    simp [go_sem]
  · intro f' hf'; simp [Target.leads] at hf'; subst hf'; exact hFg
  · simp [invoke, go_sem, eg]
  · clear_value V
    refine (hseq (w.heap.size + 1)
      (fun pre Pv W => I pre (fun i => Pv i ∨ i = w.heap.size ∨ i = w.heap.size + 1) W ∧ w.heap.size + 2 ≤ W.heap.size ∧ ¬ Pv w.heap.size ∧ ¬ Pv (w.heap.size + 1) ∧ W.heap[w.heap.size + 1]? = some (.loop (rec .ready none)) ∧ W.heap[w.heap.size]? = some (.deferred (some [])))
      (fun pre Pv W => ∃ c, Ix c pre (fun i => Pv i ∨ i = w.heap.size ∨ i = w.heap.size + 1) W ∧ w.heap.size + 2 ≤ W.heap.size ∧ ¬ Pv w.heap.size ∧ ¬ Pv (w.heap.size + 1) ∧ W.heap[w.heap.size + 1]? = some (.loop (rec .done (some c))) ∧ W.heap[w.heap.size]? = some (.deferred (some [])))
      V Cap (btr hb0 hbV) (fun _ h => h) ?_ ?_ ?_ ⟨hIV, by omega, fun h => by have := hcap _ h; omega, fun h => by have := hcap _ h; omega, hLV, hDV⟩).mono ?_
    · rintro s Pv Pv' A B ⟨j1, j2, j3, j4, j5, j6⟩ hg hm
      exact ⟨hI s _ _ A B j1 (hg.mono fun i h => .inl h) (wide hm), Nat.le_trans j2 hg.size, fun h => (hm _ h).elim j3 (fun h => by omega), fun h => (hm _ h).elim j4 (fun h => by omega), hg.obj j5 j4, hg.obj j6 j3⟩
    · rintro s Pv Pv' A B ⟨c, j1, j2, j3, j4, j5, j6⟩ hg hm
      exact ⟨c, hIx c s _ _ A B j1 (hg.mono fun i h => .inl h) (wide hm), Nat.le_trans j2 hg.size, fun h => (hm _ h).elim j3 (fun h => by omega), fun h => (hm _ h).elim j4 (fun h => by omega), hg.obj j5 j4, hg.obj j6 j3⟩
    · rintro pre x Pv W hnx ⟨hi, hz, n1, n2, hl, hk⟩
      have hy := run_yield (P := P) (args := encs x) hl (by rw [hrec]; exact hps x)
      rw [hrec] at hy
      refine ⟨fn, _, assign, body, hy, roundIn_of_wpIn hfn (wpIn_mono (hround (w.heap.size + 1) pre x (fun i => Pv i ∨ i = w.heap.size ∨ i = w.heap.size + 1) W hnx hi (.inr (.inr rfl)) (by omega) ⟨_, hl⟩) ?_)⟩
      rintro e a2 W2 h2
      cases e with
      | normal =>
        obtain ⟨hm2, hbody⟩ := h2
        have hl2 := hm2.obj hl (.inr (.inr rfl))
        have hk2 := hm2.obj hk (.inr (.inl rfl))
        refine ⟨_, run_beginRound hl2 (by rw [hrec]), ?_⟩
        have hlB : (W2.putObj (w.heap.size + 1) (.loop { rec .ready none with state := .busy })).heap[w.heap.size + 1]? = some (.loop { rec .ready none with state := .busy }) := World.putObj_heap_same (Array.getElem?_eq_some_iff.1 hl2).1
        have hkB : (W2.putObj (w.heap.size + 1) (.loop { rec .ready none with state := .busy })).heap[w.heap.size]? = some (.deferred (some [])) := (World.putObj_heap_other (by omega)).trans hk2
        have hmB : ∀ W3, Mid (fun i => Pv i ∨ i = w.heap.size ∨ i = w.heap.size + 1) (W2.putObj (w.heap.size + 1) (.loop { rec .ready none with state := .busy })) W3 → ∀ o, Mid Pv W (W3.putObj (w.heap.size + 1) o) := fun W3 h o =>
          (hm2.mono fun i h => .inl h).trans ((Mid.of_grown (grownBy_putObj' W2 _ _) (fun r e => by cases e; exact n2)).trans ((h.mono fun i h => .inl h).trans (Mid.of_grown (grownBy_putObj' W3 _ _) (fun r e => by cases e; exact n2))))
        refine wpIn_mono (hbody _ (Goes.putObj W2 _ rfl) ⟨_, hlB⟩) ?_
        have fin : ∀ (jump : Option Code) (W3 : World), Mid (fun i => Pv i ∨ i = w.heap.size ∨ i = w.heap.size + 1) (W2.putObj (w.heap.size + 1) (.loop { rec .ready none with state := .busy })) W3 →
            (Instr.endRound (w.heap.size + 1) jump).run P W3 = .ok (.bool jump.isNone) (W3.putObj (w.heap.size + 1) (.loop (rec (if jump.isNone then .ready else .done) jump))) ∧
            (W3.putObj (w.heap.size + 1) (.loop (rec (if jump.isNone then .ready else .done) jump))).heap[w.heap.size + 1]? = some (.loop (rec (if jump.isNone then .ready else .done) jump)) ∧
            (W3.putObj (w.heap.size + 1) (.loop (rec (if jump.isNone then .ready else .done) jump))).heap[w.heap.size]? = some (.deferred (some [])) ∧
            w.heap.size + 2 ≤ (W3.putObj (w.heap.size + 1) (.loop (rec (if jump.isNone then .ready else .done) jump))).heap.size := fun jump W3 h => by
          have hl3 := h.obj hlB (.inr (.inr rfl))
          have hk3 := h.obj hkB (.inr (.inl rfl))
          have := run_endRound (P := P) jump hl3
          rw [hrec] at this ⊢
          refine ⟨this, World.putObj_heap_same (Array.getElem?_eq_some_iff.1 hl3).1, (World.putObj_heap_other (by omega)).trans hk3, ?_⟩
          have h4 := (Array.getElem?_eq_some_iff.1 hl3).1
          simp [World.putObj]; omega
        rintro e a3 W3 hp
        cases e with
        | normal =>
          obtain ⟨q1, q2⟩ := hp
          obtain ⟨f1, f2, f3, f4⟩ := fin none W3 q2
          exact ⟨_, _, f1, .inl ⟨rfl, ⟨hI _ _ _ _ _ q1 (Goes.putObj W3 _ (.inr (.inr rfl))) (More.same _ _ _), f4, n1, n2, f2, f3⟩, hmB W3 q2 _⟩⟩
        | ret =>
          obtain ⟨q1, q2⟩ := hp
          obtain ⟨f1, f2, f3, f4⟩ := fin (some .ret) W3 q2
          exact ⟨_, _, f1, .inr ⟨rfl, ⟨.ret, hIx _ _ _ _ _ _ q1 (Goes.putObj W3 _ (.inr (.inr rfl))) (More.same _ _ _), f4, n1, n2, f2, f3⟩, hmB W3 q2 _⟩⟩
        | exit id =>
          obtain ⟨q1, q2⟩ := hp
          obtain ⟨f1, f2, f3, f4⟩ := fin (some (.exit id)) W3 q2
          exact ⟨_, _, f1, .inr ⟨rfl, ⟨.exit id, hIx _ _ _ _ _ _ q1 (Goes.putObj W3 _ (.inr (.inr rfl))) (More.same _ _ _), f4, n1, n2, f2, f3⟩, hmB W3 q2 _⟩⟩
        | goto t =>
          obtain ⟨q1, q2⟩ := hp
          obtain ⟨f1, f2, f3, f4⟩ := fin (some (.goto t)) W3 q2
          exact ⟨_, _, f1, .inr ⟨rfl, ⟨.goto t, hIx _ _ _ _ _ _ q1 (Goes.putObj W3 _ (.inr (.inr rfl))) (More.same _ _ _), f4, n1, n2, f2, f3⟩, hmB W3 q2 _⟩⟩
        | panic _ => exact hp.elim
        | outgrown => exact hp.elim
      | ret => exact h2.elim
      | exit _ => exact h2.elim
      | goto _ => exact h2.elim
      | panic _ => exact h2.elim
      | outgrown => exact h2.elim
    · rintro e W2 ⟨⟨v, rfl⟩, (⟨xs, Pv, hS, hi, hz, n1, n2, hl, hk⟩ | ⟨pre, Pv, hSp, c, hi, hz, n1, n2, hl, hk⟩)⟩
      · exact ⟨none, _, by have := run_endLoop (P := P) hl (by rw [hrec]; simp); rw [hrec] at this; exact this, hdone _ xs _ _ (Nat.le_refl _) (.inr (.inl rfl)) hS (hI _ _ _ _ _ hi (Goes.putObj W2 _ (.inr (.inr rfl))) (More.same _ _ _)) ((World.putObj_heap_other (by omega)).trans hk)⟩
      · exact ⟨some c, _, by have := run_endLoop (P := P) hl (by rw [hrec]; simp); rw [hrec] at this; exact this, hstop _ c pre _ _ (Nat.le_refl _) (.inr (.inl rfl)) hSp (hIx c _ _ _ _ _ hi (Goes.putObj W2 _ (.inr (.inr rfl))) (More.same _ _ _)) ((World.putObj_heap_other (by omega)).trans hk)⟩
end Go.Proofs.YtikpmkidfppknaaGreatDoor

/- round. -/
namespace Go.Proofs.YtikpmkidfppknaaGreatDoor
open Go.RowKit Go.Shelf
attribute [local go_sem] Oper.semAt_some

/-- A state in the eight cells of a block. -/
structure StaAt (b : Nat) (s : Sta) (W : World) : Prop where
  c0 : W.cell? ⟨b, 0, none⟩ = some (.int .u32 (s.a.toNat : Int))
  c1 : W.cell? ⟨b, 1, none⟩ = some (.int .u32 (s.b.toNat : Int))
  c2 : W.cell? ⟨b, 2, none⟩ = some (.int .u32 (s.c.toNat : Int))
  c3 : W.cell? ⟨b, 3, none⟩ = some (.int .u32 (s.d.toNat : Int))
  c4 : W.cell? ⟨b, 4, none⟩ = some (.int .u32 (s.e.toNat : Int))
  c5 : W.cell? ⟨b, 5, none⟩ = some (.int .u32 (s.f.toNat : Int))
  c6 : W.cell? ⟨b, 6, none⟩ = some (.int .u32 (s.g.toNat : Int))
  c7 : W.cell? ⟨b, 7, none⟩ = some (.int .u32 (s.h.toNat : Int))
  f0 : W.frozen? ⟨b, 0, none⟩ = false
  f1 : W.frozen? ⟨b, 1, none⟩ = false
  f2 : W.frozen? ⟨b, 2, none⟩ = false
  f3 : W.frozen? ⟨b, 3, none⟩ = false
  f4 : W.frozen? ⟨b, 4, none⟩ = false
  f5 : W.frozen? ⟨b, 5, none⟩ = false
  f6 : W.frozen? ⟨b, 6, none⟩ = false
  f7 : W.frozen? ⟨b, 7, none⟩ = false
theorem StaAt.lt {b : Nat} {s : Sta} {W : World} (h : StaAt b s W) : b < W.heap.size := blt h.c0
theorem StaAt.block {b : Nat} {s : Sta} {W W' : World} (h : StaAt b s W) (k : W'.heap[b]? = W.heap[b]?) : StaAt b s W' := by
  have kc : ∀ i, W'.cell? ⟨b, i, none⟩ = W.cell? ⟨b, i, none⟩ := fun i => World.cell?_of_block (w := W) k
  have kf : ∀ i, W'.frozen? ⟨b, i, none⟩ = W.frozen? ⟨b, i, none⟩ := fun i => World.frozen?_of_block (w := W) k
  exact ⟨(kc 0).trans h.c0, (kc 1).trans h.c1, (kc 2).trans h.c2, (kc 3).trans h.c3, (kc 4).trans h.c4, (kc 5).trans h.c5, (kc 6).trans h.c6, (kc 7).trans h.c7,
    (kf 0).trans h.f0, (kf 1).trans h.f1, (kf 2).trans h.f2, (kf 3).trans h.f3, (kf 4).trans h.f4, (kf 5).trans h.f5, (kf 6).trans h.f6, (kf 7).trans h.f7⟩
theorem StaAt.on {b : Nat} {s : Sta} {W W' : World} (h : StaAt b s W) (k : Below W.heap.size W W') : StaAt b s W' := h.block (k.block b h.lt)
theorem StaAt.grown {b : Nat} {s : Sta} {W W' : World} {row : Option Nat} (h : StaAt b s W) (k : W.grownBy W' row) (hr : row ≠ some b) : StaAt b s W' := h.block (k.block b h.lt (fun e => hr e.symm))
theorem StaAt.drew {b : Nat} {s : Sta} {W : World} (h : StaAt b s W) : StaAt b s W.drew := h.block rfl
theorem gr_below {b : Nat} {w W : World} (h : Below w.heap.size w W) : w.grownBy W (some b) := ⟨h.os, h.tape, h.output, h.size, fun i hi _ => h.block i hi⟩
theorem gr_grown {b : Nat} {w W W' : World} {row : Option Nat} (h : w.grownBy W (some b)) (g : W.grownBy W' row) (hr : ∀ r, row = some r → r = b ∨ w.heap.size ≤ r) : w.grownBy W' (some b) :=
  ⟨g.os.trans h.os, g.tape.trans h.tape, g.output.trans h.output, Nat.le_trans h.size g.size, fun i hi hne => (g.block i (Nat.lt_of_lt_of_le hi h.size) (fun e => by
    rcases hr i e.symm with rfl | k
    · exact hne rfl
    · omega)).trans (h.block i hi hne)⟩
theorem gr_set {b c o : Nat} {w W : World} (h : w.grownBy W (some b)) (hc : c = b ∨ w.heap.size ≤ c) (v : Value) : w.grownBy (W.setCell ⟨c, o, none⟩ v) (some b) :=
  ⟨h.os, h.tape, h.output, Nat.le_trans h.size (Nat.le_of_eq (by simp)), fun i hi hne => (Below.heap_setCell W ⟨c, o, none⟩ v i (by
    rcases hc with rfl | hc
    · intro e; exact hne (by rw [e])
    · intro e; simp at e; omega)).trans (h.block i hi hne)⟩
theorem gr_drew {b : Nat} {w W : World} (h : w.grownBy W (some b)) : w.grownBy W.drew (some b) := ⟨h.os, h.tape, h.output, h.size, h.block⟩

theorem w_addm (x y : Wd) : ((x.toNat : Int) + (y.toNat : Int)) % 4294967296 = ((x + y).toNat : Int) := by
  rw [← w_add, IntKind.wrap_u32']
def putSta (W : World) (b : Nat) (s : Sta) : World :=
  (((((((W.setCell ⟨b, 0, none⟩ (.int .u32 (s.a.toNat : Int))).setCell ⟨b, 1, none⟩ (.int .u32 (s.b.toNat : Int))).setCell ⟨b, 2, none⟩ (.int .u32 (s.c.toNat : Int))).setCell ⟨b, 3, none⟩ (.int .u32 (s.d.toNat : Int))).setCell ⟨b, 4, none⟩ (.int .u32 (s.e.toNat : Int))).setCell ⟨b, 5, none⟩ (.int .u32 (s.f.toNat : Int))).setCell ⟨b, 6, none⟩ (.int .u32 (s.g.toNat : Int))).setCell ⟨b, 7, none⟩ (.int .u32 (s.h.toNat : Int))
set_option maxHeartbeats 4000000 in
theorem StaAt.put {b : Nat} {s : Sta} {W : World} (h : StaAt b s W) (s' : Sta) : StaAt b s' (putSta W b s') := by
  obtain ⟨c0, c1, c2, c3, c4, c5, c6, c7, f0, f1, f2, f3, f4, f5, f6, f7⟩ := h
  unfold putSta
  exact ⟨by go_simp, by go_simp, by go_simp, by go_simp, by go_simp, by go_simp, by go_simp, by go_simp, by go_simp, by go_simp, by go_simp, by go_simp, by go_simp, by go_simp, by go_simp, by go_simp⟩
theorem gr_put {b : Nat} {w W : World} (h : w.grownBy W (some b)) (s : Sta) : w.grownBy (putSta W b s) (some b) :=
  gr_set (gr_set (gr_set (gr_set (gr_set (gr_set (gr_set (gr_set h (.inl rfl) _) (.inl rfl) _) (.inl rfl) _) (.inl rfl) _) (.inl rfl) _) (.inl rfl) _) (.inl rfl) _) (.inl rfl) _
theorem cellsW : ∀ (l : List Wd) {t : TypeId} (w : World) (j : Nat) (x : Wd), l[j]? = some x → (w.alloc (Obj.cells (l.map fun y => Value.int IntKind.u32 (y.toNat : Int)).toArray t)).cell? ⟨w.heap.size, 0 + j, none⟩ = some (.int .u32 (x.toNat : Int)) := by
  intro l t w j x h
  have e : (w.alloc (Obj.cells (l.map fun y => Value.int IntKind.u32 (y.toNat : Int)).toArray t)).heap[w.heap.size]? = some (Obj.cells (l.map fun y => Value.int IntKind.u32 (y.toNat : Int)).toArray t) := World.alloc_heap_new w _
  simp only [World.cell?, e]
  simp [h]
set_option maxRecDepth 100000 in
set_option maxHeartbeats 8000000 in
theorem round_c (B : Nat) (s : Sta) (k x : Wd) (w : World) (hS : StaAt B s w) : Calls Tryz.prog 84 #[.pointer (some ⟨B, 0, none⟩), .int .u32 (k.toNat : Int), .int .u32 (x.toNat : Int)] w fun r w' => (∃ v, r = .returned v) ∧ StaAt B (roundS s k x) w' ∧ w.grownBy w' (some B) := by
  obtain ⟨a, b, c, d, e, f, g, hw⟩ := s
  have HS := Lib.hid hS
  obtain ⟨c0, c1, c2, c3, c4, c5, c6, c7, f0, f1, f2, f3, f4, f5, f6, f7⟩ := hS
  simp only [] at c0 c1 c2 c3 c4 c5 c6 c7
  have u0 : Below w.heap.size w w := Below.refl _ w
  have MK := Lib.hid (show ∀ w', Below w.heap.size w w' → w'.cell? ⟨B, 0, none⟩ = some (.int .u32 (a.toNat : Int)) ∧ w'.cell? ⟨B, 1, none⟩ = some (.int .u32 (b.toNat : Int)) ∧ w'.cell? ⟨B, 2, none⟩ = some (.int .u32 (c.toNat : Int)) ∧ w'.cell? ⟨B, 3, none⟩ = some (.int .u32 (d.toNat : Int)) ∧ w'.cell? ⟨B, 4, none⟩ = some (.int .u32 (e.toNat : Int)) ∧ w'.cell? ⟨B, 5, none⟩ = some (.int .u32 (f.toNat : Int)) ∧ w'.cell? ⟨B, 6, none⟩ = some (.int .u32 (g.toNat : Int)) ∧ w'.cell? ⟨B, 7, none⟩ = some (.int .u32 (hw.toNat : Int)) ∧ Below w.heap.size w w' from
    (fun w' h => ⟨(h.cell (p := ⟨B, 0, none⟩) (blt c0)).trans c0, (h.cell (p := ⟨B, 1, none⟩) (blt c0)).trans c1, (h.cell (p := ⟨B, 2, none⟩) (blt c0)).trans c2, (h.cell (p := ⟨B, 3, none⟩) (blt c0)).trans c3, (h.cell (p := ⟨B, 4, none⟩) (blt c0)).trans c4, (h.cell (p := ⟨B, 5, none⟩) (blt c0)).trans c5, (h.cell (p := ⟨B, 6, none⟩) (blt c0)).trans c6, (h.cell (p := ⟨B, 7, none⟩) (blt c0)).trans c7, h⟩))
  have HF := Lib.hid (fun W => fifth_c e W)
  have HG := Lib.hid (fun W => first_c a W)
  have E1 : bits .xor .u32 (bits .and .u32 (e.toNat : Int) (f.toNat : Int)) (bits .and .u32 (bits .xor .u32 IntKind.u32.max (e.toNat : Int)) (g.toNat : Int)) = (((e &&& f) ^^^ (~~~e &&& g)).toNat : Int) := by rw [show IntKind.u32.max = 4294967295 from rfl, w_not, w_and, w_and, w_xor]
  have E2 : bits .xor .u32 (bits .xor .u32 (bits .and .u32 (a.toNat : Int) (b.toNat : Int)) (bits .and .u32 (a.toNat : Int) (c.toNat : Int))) (bits .and .u32 (b.toNat : Int) (c.toNat : Int)) = ((((a &&& b) ^^^ (a &&& c)) ^^^ (b &&& c)).toNat : Int) := by rw [w_and, w_and, w_and, w_xor, w_xor]
  have hR : roundS ⟨a, b, c, d, e, f, g, hw⟩ k x = ⟨totalL [hw, fifthW e, (e &&& f) ^^^ (~~~e &&& g), k, x] + totalL [firstW a, ((a &&& b) ^^^ (a &&& c)) ^^^ (b &&& c)], a, b, c, d + totalL [hw, fifthW e, (e &&& f) ^^^ (~~~e &&& g), k, x], e, f, g⟩ := rfl
  rw [hR]
  clear hR
  generalize (e &&& f) ^^^ (~~~e &&& g) = X at *
  generalize ((a &&& b) ^^^ (a &&& c)) ^^^ (b &&& c) = Y at *
  generalize fifthW e = F at *
  generalize firstW a = G at *
  obtain ⟨TT, hTT⟩ : ∃ TT, TT = totalL [hw, F, X, k, x] := ⟨_, rfl⟩
  obtain ⟨UU, hUU⟩ : ∃ UU, UU = totalL [G, Y] := ⟨_, rfl⟩
  rw [← hTT, ← hUU]
  have HTT := Lib.hid hTT
  have HUU := Lib.hid hUU
  clear hTT hUU
  go_enter Tryz.func84, Tryz.ntmps84
  go_wp2_with fail
  refine wp_region_held_drew (S := (fun w' => w'.cell? ⟨B, 0, none⟩ = some (.int .u32 (a.toNat : Int)) ∧ w'.cell? ⟨B, 1, none⟩ = some (.int .u32 (b.toNat : Int)) ∧ w'.cell? ⟨B, 2, none⟩ = some (.int .u32 (c.toNat : Int)) ∧ w'.cell? ⟨B, 3, none⟩ = some (.int .u32 (d.toNat : Int)) ∧ w'.cell? ⟨B, 4, none⟩ = some (.int .u32 (e.toNat : Int)) ∧ w'.cell? ⟨B, 5, none⟩ = some (.int .u32 (f.toNat : Int)) ∧ w'.cell? ⟨B, 6, none⟩ = some (.int .u32 (g.toNat : Int)) ∧ w'.cell? ⟨B, 7, none⟩ = some (.int .u32 (hw.toNat : Int)) ∧ Below w.heap.size w w')) (by kernel_rfl) ?_ (fun hHeld => ?_)
  · (first | with_reducible assumption | exact MK.out _ (by with_reducible assumption) | exact MK.out _ (below_drew (by with_reducible assumption)))
  refine takeH (i := 0) (some 16) (v := ?_) rfl rfl (by kernel_rfl) (by kernel_rfl) (by kernel_rfl) (fun _ _ _ h => h) (Or.inl ⟨by rfl, ?hy0⟩) hHeld ?rest0
  case hy0 => (intro w hSw; (try dsimp only at hSw); go_simp; (try with_reducible rfl))
  try simp only [Act.put, List.setIfInBounds_toArray, List.set_cons_zero, List.set_cons_succ]
  refine takeH (i := 1) (some 17) (v := ?_) rfl rfl (by kernel_rfl) (by kernel_rfl) (by kernel_rfl) (fun _ _ _ h => h) (Or.inl ⟨by rfl, ?hy1⟩) hHeld ?rest1
  case hy1 => (intro w hSw; (try dsimp only at hSw); go_simp; (try with_reducible rfl))
  try simp only [Act.put, List.setIfInBounds_toArray, List.set_cons_zero, List.set_cons_succ]
  refine takeH (i := 2) (some 18) (v := ?_) rfl rfl (by kernel_rfl) (by kernel_rfl) (by kernel_rfl) (fun _ _ _ h => h) (Or.inl ⟨by rfl, ?hy2⟩) hHeld ?rest2
  case hy2 => (intro w hSw; (try dsimp only at hSw); go_simp; (try with_reducible rfl))
  try simp only [Act.put, List.setIfInBounds_toArray, List.set_cons_zero, List.set_cons_succ]
  refine takeH (i := 3) (some 19) (v := ?_) rfl rfl (by kernel_rfl) (by kernel_rfl) (by kernel_rfl) (fun _ _ _ h => h) (Or.inl ⟨by rfl, ?hy3⟩) hHeld ?rest3
  case hy3 => (intro w hSw; (try dsimp only at hSw); go_simp; (try with_reducible rfl))
  try simp only [Act.put, List.setIfInBounds_toArray, List.set_cons_zero, List.set_cons_succ]
  refine takeH (i := 4) (some 20) (v := ?_) rfl rfl (by kernel_rfl) (by kernel_rfl) (by kernel_rfl) (fun _ _ _ h => h) (Or.inl ⟨by rfl, ?hy4⟩) hHeld ?rest4
  case hy4 => (intro w hSw; (try dsimp only at hSw); go_simp; (try with_reducible rfl))
  try simp only [Act.put, List.setIfInBounds_toArray, List.set_cons_zero, List.set_cons_succ]
  refine takeH (i := 5) (some 21) (v := ?_) rfl rfl (by kernel_rfl) (by kernel_rfl) (by kernel_rfl) (fun _ _ _ h => h) (Or.inl ⟨by rfl, ?hy5⟩) hHeld ?rest5
  case hy5 => (intro w hSw; (try dsimp only at hSw); go_simp; (try with_reducible rfl))
  try simp only [Act.put, List.setIfInBounds_toArray, List.set_cons_zero, List.set_cons_succ]
  refine takeH (i := 6) (some 22) (v := ?_) rfl rfl (by kernel_rfl) (by kernel_rfl) (by kernel_rfl) (fun _ _ _ h => h) (Or.inl ⟨by rfl, ?hy6⟩) hHeld ?rest6
  case hy6 => (intro w hSw; (try dsimp only at hSw); go_simp; (try with_reducible rfl))
  try simp only [Act.put, List.setIfInBounds_toArray, List.set_cons_zero, List.set_cons_succ]
  refine takeH (i := 7) (some 23) (v := ?_) rfl rfl (by kernel_rfl) (by kernel_rfl) (by kernel_rfl) (fun _ _ _ h => h) (Or.inl ⟨by rfl, ?hy7⟩) hHeld ?rest7
  case hy7 => (intro w hSw; (try dsimp only at hSw); go_simp; (try with_reducible rfl))
  try simp only [Act.put, List.setIfInBounds_toArray, List.set_cons_zero, List.set_cons_succ]
  refine takeH (i := 8) (some 24) (v := ?_) rfl rfl (by kernel_rfl) (by kernel_rfl) (by kernel_rfl) (fun _ _ _ h => h) (Or.inl ⟨by rfl, ?hy8⟩) hHeld ?rest8
  case hy8 => (intro w hSw; (try dsimp only at hSw); go_simp; (try with_reducible rfl))
  try simp only [Act.put, List.setIfInBounds_toArray, List.set_cons_zero, List.set_cons_succ]
  refine takeH (i := 9) (some 25) (v := ?_) rfl rfl (by kernel_rfl) (by kernel_rfl) (by kernel_rfl) (fun _ _ _ h => h) (Or.inl ⟨by rfl, ?hy9⟩) hHeld ?rest9
  case hy9 => (intro w hSw; (try dsimp only at hSw); go_simp; (try with_reducible rfl))
  try simp only [Act.put, List.setIfInBounds_toArray, List.set_cons_zero, List.set_cons_succ]
  refine takeH (i := 10) (some 26) (v := ?_) rfl rfl (by kernel_rfl) (by kernel_rfl) (by kernel_rfl) (fun _ _ _ h => h) (Or.inl ⟨by rfl, ?hy10⟩) hHeld ?rest10
  case hy10 => (intro w hSw; (try dsimp only at hSw); go_simp; (try with_reducible rfl))
  try simp only [Act.put, List.setIfInBounds_toArray, List.set_cons_zero, List.set_cons_succ]
  refine takeH (i := 11) (some 27) (v := ?_) rfl rfl (by kernel_rfl) (by kernel_rfl) (by kernel_rfl) (fun _ _ _ h => h) (Or.inl ⟨by rfl, ?hy11⟩) hHeld ?rest11
  case hy11 => (intro w hSw; (try dsimp only at hSw); go_simp; (try with_reducible rfl))
  try simp only [Act.put, List.setIfInBounds_toArray, List.set_cons_zero, List.set_cons_succ]
  refine takeH (i := 12) (some 28) (v := ?_) rfl rfl (by kernel_rfl) (by kernel_rfl) (by kernel_rfl) (fun _ _ _ h => h) (Or.inl ⟨by rfl, ?hy12⟩) hHeld ?rest12
  case hy12 => (intro w hSw; (try dsimp only at hSw); go_simp; (try with_reducible rfl))
  try simp only [Act.put, List.setIfInBounds_toArray, List.set_cons_zero, List.set_cons_succ]
  refine takeH (i := 13) (some 29) (v := ?_) rfl rfl (by kernel_rfl) (by kernel_rfl) (by kernel_rfl) (fun _ _ _ h => h) (Or.inl ⟨by rfl, ?hy13⟩) hHeld ?rest13
  case hy13 => (intro w hSw; (try dsimp only at hSw); go_simp; (try with_reducible rfl))
  try simp only [Act.put, List.setIfInBounds_toArray, List.set_cons_zero, List.set_cons_succ]
  refine takeH (i := 14) (some 30) (v := ?_) rfl rfl (by kernel_rfl) (by kernel_rfl) (by kernel_rfl) (fun _ _ _ h => h) (Or.inl ⟨by rfl, ?hy14⟩) hHeld ?rest14
  case hy14 => (intro w hSw; (try dsimp only at hSw); go_simp; (try with_reducible rfl))
  try simp only [Act.put, List.setIfInBounds_toArray, List.set_cons_zero, List.set_cons_succ]
  refine takeH (i := 15) (some 31) (v := ?_) rfl rfl (by kernel_rfl) (by kernel_rfl) (by kernel_rfl) (fun _ _ _ h => h) (Or.inl ⟨by rfl, ?hy15⟩) hHeld ?rest15
  case hy15 => (intro w hSw; (try dsimp only at hSw); go_simp; (try with_reducible rfl))
  try simp only [Act.put, List.setIfInBounds_toArray, List.set_cons_zero, List.set_cons_succ]
  refine takeH (i := 16) (some 32) (v := ?_) rfl rfl (by kernel_rfl) (by kernel_rfl) (by kernel_rfl) (fun _ _ _ h => h) (Or.inl ⟨by rfl, ?hy16⟩) hHeld ?rest16
  case hy16 => (intro w hSw; (try dsimp only at hSw); go_simp; (try with_reducible rfl))
  try simp only [Act.put, List.setIfInBounds_toArray, List.set_cons_zero, List.set_cons_succ]
  refine takeH (i := 17) (some 33) (v := ?_) rfl rfl (by kernel_rfl) (by kernel_rfl) (by kernel_rfl) (fun _ _ _ h => h) (Or.inl ⟨by rfl, ?hy17⟩) hHeld ?rest17
  case hy17 => (intro w hSw; (try dsimp only at hSw); go_simp; (try with_reducible rfl))
  try simp only [Act.put, List.setIfInBounds_toArray, List.set_cons_zero, List.set_cons_succ]
  refine takeH (i := 18) (some 34) (v := ?_) rfl rfl (by kernel_rfl) (by kernel_rfl) (by kernel_rfl) (fun _ _ _ h => h) (Or.inl ⟨by rfl, ?hy18⟩) hHeld ?rest18
  case hy18 => (intro w hSw; (try dsimp only at hSw); go_simp; (try with_reducible rfl))
  try simp only [Act.put, List.setIfInBounds_toArray, List.set_cons_zero, List.set_cons_succ]
  refine takeH (i := 19) (some 35) (v := ?_) rfl rfl (by kernel_rfl) (by kernel_rfl) (by kernel_rfl) (fun _ _ _ h => h) (Or.inl ⟨by rfl, ?hy19⟩) hHeld ?rest19
  case hy19 => (intro w hSw; (try dsimp only at hSw); go_simp; (try with_reducible rfl))
  try simp only [Act.put, List.setIfInBounds_toArray, List.set_cons_zero, List.set_cons_succ]
  refine takeH (i := 20) (some 36) (v := ?_) rfl rfl (by kernel_rfl) (by kernel_rfl) (by kernel_rfl) (fun _ _ _ h => h) (Or.inl ⟨by rfl, ?hy20⟩) hHeld ?rest20
  case hy20 => (intro w hSw; (try dsimp only at hSw); go_simp; (try with_reducible rfl))
  try simp only [Act.put, List.setIfInBounds_toArray, List.set_cons_zero, List.set_cons_succ]
  refine takeH (i := 21) (some 37) (v := ?_) rfl rfl (by kernel_rfl) (by kernel_rfl) (by kernel_rfl) (fun _ _ _ h => h) (Or.inl ⟨by rfl, ?hy21⟩) hHeld ?rest21
  case hy21 => (intro w hSw; (try dsimp only at hSw); go_simp; (try with_reducible rfl))
  try simp only [Act.put, List.setIfInBounds_toArray, List.set_cons_zero, List.set_cons_succ]
  refine takeH (i := 22) (some 38) (v := ?_) rfl rfl (by kernel_rfl) (by kernel_rfl) (by kernel_rfl) (fun _ _ _ h => h) (Or.inl ⟨by rfl, ?hy22⟩) hHeld ?rest22
  case hy22 => (intro w hSw; (try dsimp only at hSw); go_simp; (try with_reducible rfl))
  try simp only [Act.put, List.setIfInBounds_toArray, List.set_cons_zero, List.set_cons_succ]
  refine takeH (i := 23) (some 39) (v := ?_) rfl rfl (by kernel_rfl) (by kernel_rfl) (by kernel_rfl) (fun _ _ _ h => h) (Or.inl ⟨by rfl, ?hy23⟩) hHeld ?rest23
  case hy23 => (intro w hSw; (try dsimp only at hSw); go_simp; (try with_reducible rfl))
  try simp only [Act.put, List.setIfInBounds_toArray, List.set_cons_zero, List.set_cons_succ]
  refine takeH (i := 24) (some 40) (v := ?_) rfl rfl (by kernel_rfl) (by kernel_rfl) (by kernel_rfl) (fun _ _ _ h => h) (Or.inl ⟨by rfl, ?hy24⟩) hHeld ?rest24
  case hy24 => (intro w hSw; (try dsimp only at hSw); go_simp; (try with_reducible rfl))
  try simp only [Act.put, List.setIfInBounds_toArray, List.set_cons_zero, List.set_cons_succ]
  refine takeH (i := 25) (some 41) (v := ?_) rfl rfl (by kernel_rfl) (by kernel_rfl) (by kernel_rfl) (fun _ _ _ h => h) (Or.inl ⟨by rfl, ?hy25⟩) hHeld ?rest25
  case hy25 => (intro w hSw; (try dsimp only at hSw); go_simp; (try with_reducible rfl))
  try simp only [Act.put, List.setIfInBounds_toArray, List.set_cons_zero, List.set_cons_succ]
  refine takeH (i := 26) (some 42) (v := ?_) rfl rfl (by kernel_rfl) (by kernel_rfl) (by kernel_rfl) (fun _ _ _ h => h) (Or.inl ⟨by rfl, ?hy26⟩) hHeld ?rest26
  case hy26 => (intro w hSw; (try dsimp only at hSw); go_simp; (try with_reducible rfl))
  try simp only [Act.put, List.setIfInBounds_toArray, List.set_cons_zero, List.set_cons_succ]
  refine takeH (i := 27) (some 43) (v := ?_) rfl rfl (by kernel_rfl) (by kernel_rfl) (by kernel_rfl) (fun _ _ _ h => h) (Or.inl ⟨by rfl, ?hy27⟩) hHeld ?rest27
  case hy27 => (intro w hSw; (try dsimp only at hSw); go_simp; (try with_reducible rfl))
  try simp only [Act.put, List.setIfInBounds_toArray, List.set_cons_zero, List.set_cons_succ]
  refine takeH (i := 28) (some 44) (v := ?_) rfl rfl (by kernel_rfl) (by kernel_rfl) (by kernel_rfl) (fun _ _ _ h => h) (Or.inl ⟨by rfl, ?hy28⟩) hHeld ?rest28
  case hy28 => (intro w hSw; (try dsimp only at hSw); go_simp; (try with_reducible rfl))
  try simp only [Act.put, List.setIfInBounds_toArray, List.set_cons_zero, List.set_cons_succ]
  refine takeH (i := 29) (some 45) (v := ?_) rfl rfl (by kernel_rfl) (by kernel_rfl) (by kernel_rfl) (fun _ _ _ h => h) (Or.inl ⟨by rfl, ?hy29⟩) hHeld ?rest29
  case hy29 => (intro w hSw; (try dsimp only at hSw); go_simp; (try with_reducible rfl))
  try simp only [Act.put, List.setIfInBounds_toArray, List.set_cons_zero, List.set_cons_succ]
  refine takeH (i := 30) (some 46) (v := ?_) rfl rfl (by kernel_rfl) (by kernel_rfl) (by kernel_rfl) (fun _ _ _ h => h) (Or.inl ⟨by rfl, ?hy30⟩) hHeld ?rest30
  case hy30 => (intro w hSw; (try dsimp only at hSw); go_simp; (try with_reducible rfl))
  try simp only [Act.put, List.setIfInBounds_toArray, List.set_cons_zero, List.set_cons_succ]
  refine takeH (i := 31) (some 47) (v := ?_) rfl rfl (by kernel_rfl) (by kernel_rfl) (by kernel_rfl) (fun _ _ _ h => h) (Or.inl ⟨by rfl, ?hy31⟩) hHeld ?rest31
  case hy31 => (intro w hSw; (try dsimp only at hSw); go_simp; (try with_reducible rfl))
  try simp only [Act.put, List.setIfInBounds_toArray, List.set_cons_zero, List.set_cons_succ]
  refine takeH (i := 32) (some 6) (v := ?_) rfl rfl (by kernel_rfl) (by kernel_rfl) (by kernel_rfl) (fun _ _ _ h => h) (Or.inl ⟨by rfl, ?hy32⟩) hHeld ?rest32
  case hy32 => (intro w hSw; (try dsimp only at hSw); go_simp; (try with_reducible rfl))
  try simp only [Act.put, List.setIfInBounds_toArray, List.set_cons_zero, List.set_cons_succ]
  refine takeH (i := 33) (some 7) (v := ?_) rfl rfl (by kernel_rfl) (by kernel_rfl) (by kernel_rfl) (fun _ _ _ h => h) (Or.inl ⟨by rfl, ?hy33⟩) hHeld ?rest33
  case hy33 => (intro w hSw; (try dsimp only at hSw); go_simp; (try with_reducible rfl))
  try simp only [Act.put, List.setIfInBounds_toArray, List.set_cons_zero, List.set_cons_succ]
  refine takeH (i := 34) (some 8) (v := ?_) rfl rfl (by kernel_rfl) (by kernel_rfl) (by kernel_rfl) (fun _ _ _ h => h) (Or.inl ⟨by rfl, ?hy34⟩) hHeld ?rest34
  case hy34 => (intro w hSw; (try dsimp only at hSw); go_simp; (try with_reducible rfl))
  try simp only [Act.put, List.setIfInBounds_toArray, List.set_cons_zero, List.set_cons_succ]
  refine takeH (i := 35) (some 9) (v := ?_) rfl rfl (by kernel_rfl) (by kernel_rfl) (by kernel_rfl) (fun _ _ _ h => h) (Or.inl ⟨by rfl, ?hy35⟩) hHeld ?rest35
  case hy35 => (intro w hSw; (try dsimp only at hSw); go_simp; (try with_reducible rfl))
  try simp only [Act.put, List.setIfInBounds_toArray, List.set_cons_zero, List.set_cons_succ]
  refine takeH (i := 36) (some 10) (v := ?_) rfl rfl (by kernel_rfl) (by kernel_rfl) (by kernel_rfl) (fun _ _ _ h => h) (Or.inl ⟨by rfl, ?hy36⟩) hHeld ?rest36
  case hy36 => (intro w hSw; (try dsimp only at hSw); go_simp; (try with_reducible rfl))
  try simp only [Act.put, List.setIfInBounds_toArray, List.set_cons_zero, List.set_cons_succ]
  refine takeH (i := 37) (some 11) (v := ?_) rfl rfl (by kernel_rfl) (by kernel_rfl) (by kernel_rfl) (fun _ _ _ h => h) (Or.inl ⟨by rfl, ?hy37⟩) hHeld ?rest37
  case hy37 => (intro w hSw; (try dsimp only at hSw); go_simp; (try with_reducible rfl))
  try simp only [Act.put, List.setIfInBounds_toArray, List.set_cons_zero, List.set_cons_succ]
  refine takeH (i := 38) (some 12) (v := ?_) rfl rfl (by kernel_rfl) (by kernel_rfl) (by kernel_rfl) (fun _ _ _ h => h) (Or.inl ⟨by rfl, ?hy38⟩) hHeld ?rest38
  case hy38 => (intro w hSw; (try dsimp only at hSw); go_simp; (try with_reducible rfl))
  try simp only [Act.put, List.setIfInBounds_toArray, List.set_cons_zero, List.set_cons_succ]
  refine takeH (i := 39) (some 13) (v := ?_) rfl rfl (by kernel_rfl) (by kernel_rfl) (by kernel_rfl) (fun _ _ _ h => h) (Or.inl ⟨by rfl, ?hy39⟩) hHeld ?rest39
  case hy39 => (intro w hSw; (try dsimp only at hSw); go_simp; (try with_reducible rfl))
  try simp only [Act.put, List.setIfInBounds_toArray, List.set_cons_zero, List.set_cons_succ]
  refine wpAnyH_done (by kernel_rfl) ?_ _
  go_wp2_with fail
  with_reducible refine (HF.out _).mono ?_
  rintro q w1 ⟨rfl, hb1⟩
  go_wp2_with fail
  refine (total_c [hw, F, X, k, x] w1.heap.size 0 5 _ (cellsW [hw, F, X, k, x] w1) (by simp)).mono ?_
  rintro q w2 ⟨rfl, hb2⟩
  rw [← HTT.out]
  go_wp2_with fail
  with_reducible refine (HG.out _).mono ?_
  rintro q w3 ⟨rfl, hb3⟩
  go_wp2_with fail
  refine (total_c [G, Y] w3.heap.size 0 2 _ (cellsW [G, Y] w3) (by simp)).mono ?_
  rintro q w4 ⟨rfl, hb4⟩
  rw [← HUU.out]
  have bA := btr (btr (below_drew (Below.refl w.heap.size w)) hb1) (btr (below_alloc w1 _) hb2)
  have bB := btr bA (btr hb3 (btr (below_alloc w3 _) hb4))
  have S4 := HS.out.on bB
  clear hb1 hb2 hb3 hb4
  obtain ⟨c0', c1', c2', c3', c4', c5', c6', c7', f0', f1', f2', f3', f4', f5', f6', f7'⟩ := S4
  simp only [] at c0' c1' c2' c3' c4' c5' c6' c7'
  go_wp2
  rw [w_addm, w_addm]
  go_end0
  refine ⟨⟨_, rfl⟩, (HS.out.on bB).put _, ?_⟩
  exact gr_put (gr_below bB) ⟨TT + UU, a, b, c, d + TT, e, f, g⟩
end Go.Proofs.YtikpmkidfppknaaGreatDoor

/- Bytes in a row; texts as lists of natural numbers. -/
namespace Go.Proofs.YtikpmkidfppknaaGreatDoor
open Go.RowKit Go.Shelf

/-- A text's bytes as numbers, and back. -/
def bL (s : ByteArray) : List Nat := s.data.toList.map UInt8.toNat
def ofL (l : List Nat) : ByteArray := ⟨(l.map UInt8.ofNat).toArray⟩
theorem bL_length (s : ByteArray) : (bL s).length = s.size := by rw [bL, List.length_map]; rfl
theorem bL_lt (s : ByteArray) : ∀ c ∈ bL s, c < 256 := by
  intro c hc
  obtain ⟨x, _, rfl⟩ := List.mem_map.1 hc
  exact x.toNat_lt
theorem ofL_size (l : List Nat) : (ofL l).size = l.length := by
  show (l.map UInt8.ofNat).toArray.size = _
  rw [List.size_toArray, List.length_map]
theorem ofL_bL (s : ByteArray) : ofL (bL s) = s := by
  unfold ofL bL
  rw [List.map_map]
  have : (UInt8.ofNat ∘ UInt8.toNat) = id := by funext x; exact UInt8.ofNat_toNat
  rw [this, List.map_id]
theorem bL_ofL (l : List Nat) (h : ∀ c ∈ l, c < 256) : bL (ofL l) = l := by
  show (l.map UInt8.ofNat).map UInt8.toNat = l
  rw [List.map_map]
  conv => rhs; rw [← List.map_id l]
  refine List.map_congr_left fun c hc => ?_
  show (UInt8.ofNat c).toNat = c
  rw [UInt8.toNat_ofNat', Nat.mod_eq_of_lt (h c hc)]
theorem bL_append (s t : ByteArray) : bL (s ++ t) = bL s ++ bL t := by
  unfold bL
  rw [← List.map_append]
  congr 1
theorem ofL_append (l m : List Nat) : ofL (l ++ m) = ofL l ++ ofL m := by
  have h : (ofL l ++ ofL m).data = (ofL l).data ++ (ofL m).data := by simp
  show (⟨((l ++ m).map UInt8.ofNat).toArray⟩ : ByteArray) = ⟨(ofL l ++ ofL m).data⟩
  rw [h]
  simp [ofL]
theorem bL_inj {s t : ByteArray} (h : bL s = bL t) : s = t := by rw [← ofL_bL s, h, ofL_bL]
theorem bL_extract (s : ByteArray) (i j : Nat) : bL (s.extract i j) = ((bL s).take j).drop i := by
  unfold bL
  rw [← List.map_take, ← List.map_drop]
  congr 1
  rw [ByteArray.data_extract, Array.toList_extract, List.extract_eq_take_drop, List.drop_take]
theorem bL_get (s : ByteArray) (k : Nat) (h : k < s.size) : (bL s)[k]? = some (s[k]'h).toNat := by
  unfold bL
  rw [List.getElem?_map]
  have : s.data.toList[k]? = some (s[k]'h) := by
    rw [List.getElem?_eq_getElem (show k < s.data.toList.length from h)]; rfl
  rw [this]; rfl

def byV (n : Nat) : Value := .int .u8 (n : Int)
def byVs (l : List Nat) : List Value := l.map byV
theorem byVs_append (l m : List Nat) : byVs (l ++ m) = byVs l ++ byVs m := List.map_append
theorem byVs_length (l : List Nat) : (byVs l).length = l.length := List.length_map _
theorem byVs_one (l : List Nat) : ∀ u ∈ byVs l, u.oneCell' = true := by
  intro u hu
  obtain ⟨x, _, rfl⟩ := List.mem_map.1 hu
  rfl
/-- Bytes in a row of their own. -/
def BysAt (b : Nat) (l : List Nat) (W : World) : Prop := W.heap[b]? = some (.cells (byVs l).toArray 5 (0, 0))
theorem BysAt.lt {b : Nat} {l : List Nat} {W : World} (h : BysAt b l W) : b < W.heap.size := (Array.getElem?_eq_some_iff.1 h).1
theorem BysAt.on {b : Nat} {l : List Nat} {W W' : World} (h : BysAt b l W) (k : Below W.heap.size W W') : BysAt b l W' := (k.block b h.lt).trans h
theorem BysAt.cell {b : Nat} {l : List Nat} {W : World} (h : BysAt b l W) {j n : Nat} (hj : l[j]? = some n) : W.cell? ⟨b, j, none⟩ = some (.int .u8 (n : Int)) := by
  rw [cell_of_row W b j _ _ _ h]
  simp [byVs, hj, byV]
theorem BysAt.frozen {b : Nat} {l : List Nat} {W : World} (h : BysAt b l W) (j : Nat) : W.frozen? ⟨b, j, none⟩ = false := by
  have h' : W.heap[b]? = some (.cells (byVs l).toArray 5 (0, 0)) := h
  simp [World.frozen?, h']
theorem BysAt.set {b : Nat} {l : List Nat} {W : World} (h : BysAt b l W) (j n : Nat) : BysAt b (l.set j n) (W.setCell ⟨b, j, none⟩ (.int .u8 (n : Int))) := by
  unfold BysAt
  rw [setCell_eq_setRow W b j _ _ _ _ h, setRow_heap W b _ _ _ _ h]
  congr 2
  simp [byVs, byV]
theorem conv_cells (l : List Nat) (hl : ∀ c ∈ l, c < 256) (b c : Nat) (W : World) (h : ∀ (j n : Nat), l[j]? = some n → W.cell? ⟨b, j, none⟩ = some (.int .u8 (n : Int))) : (convert 103 9 (.slice (some ⟨b, 0, none⟩) l.length c)).run Tryz.prog W = .ok (.string (ofL l)) W := by
  have := run_convert_bytes_back (P := Tryz.prog) W 103 9 5 ⟨b, 0, none⟩ c (l.map UInt8.ofNat) (by kernel_rfl) (by kernel_rfl) (by kernel_rfl) (fun j hj => by
    have hj' : j < l.length := by simpa using hj
    have hadd : (⟨b, 0, none⟩ : Addr).add j = ⟨b, j, none⟩ := by unfold Addr.add; split <;> simp_all
    rw [hadd, h j l[j] (List.getElem?_eq_getElem hj')]
    have hc := hl l[j] (List.getElem_mem hj')
    simp [UInt8.toNat_ofNat', Nat.mod_eq_of_lt hc])
  rw [List.length_map] at this
  exact this
theorem made_by (n : Nat) : madeCells #[.int .u8 0] n = (byVs (List.replicate n 0)).toArray := by
  apply Array.ext_getElem?
  intro j
  by_cases h : j < n
  · simp [madeCells, h, Nat.mod_one, byVs, byV]
  · simp [madeCells, h, byVs]
theorem info_by : ∃ i, Tryz.prog.info? 5 = some i ∧ i.zero = some (.int .u8 0) ∧ i.bytes = 1 ∧ i.size = 1 := by
  have z : (Tryz.prog.info? 5).bind (·.zero) = some (.int .u8 0) := by kernel_rfl
  have b : (Tryz.prog.info? 5).map (·.bytes) = some 1 := by kernel_rfl
  have s : (Tryz.prog.info? 5).map (·.size) = some 1 := by kernel_rfl
  cases hi : Tryz.prog.info? 5 with
  | none => rw [hi] at z; cases z
  | some i => rw [hi] at z b s; exact ⟨i, rfl, z, Option.some.inj b, Option.some.inj s⟩
theorem make_by (l n : Nat) (hl : l ≤ n) (h : n ≤ 1000000) (W : World) : (Instr.makeSlice 103 (.int .i64 l) (.int .i64 n)).run Tryz.prog W = .ok (.slice (some ⟨W.heap.size, 0, none⟩) l n) (W.alloc (.cells (byVs (List.replicate n 0)).toArray 5)) := by
  obtain ⟨i, hi, hz, hb, hs⟩ := info_by
  have := run_make (P := Tryz.prog) W 103 5 i (.int .u8 0) (by kernel_rfl) hi hz .i64 .i64 (l : Int) (n : Int) (by omega) (by omega) (by rw [hb]; omega) (by omega)
  simp only [Int.toNat_natCast, hs, Nat.mul_one] at this
  rw [← made_by]
  exact this
theorem BysAt.new (l : List Nat) (W : World) : BysAt W.heap.size l (W.alloc (.cells (byVs l).toArray 5)) := World.alloc_heap_new W _
theorem byVs_bL (s : ByteArray) : byVs (bL s) = Lib.byteCells s.data.toList := by
  unfold byVs bL Lib.byteCells
  rw [List.map_map]
  rfl
theorem BysAt.row {b : Nat} {l : List Nat} {W : World} (h : BysAt b l W) (m : List Nat) : BysAt b m (W.setRow b (byVs m).toArray) := setRow_heap W b _ _ _ _ h
/-- copy, out of a text, to a row's beginning. -/
theorem wpList_copy_text {w : World} {ops : Array Oper} {rest : List Oper} {o : Oper} {a : Act} {Q : Exit → Act → World → Prop} (hgd : o.guard = none) (d s : Operand)
    (ho : o.op = .call { callee := .builtin .copy, args := #[d, s], argTypes := #[103, 9] })
    (b dLen dCap : Nat) (x : ByteArray) (hd : a.eval d = .slice (some ⟨b, 0, none⟩) dLen dCap) (hs : a.eval s = .string x) (l : List Nat) (hg : BysAt b l w) (hle : x.size ≤ dLen) (hfit : x.size ≤ l.length)
    (B : Nat) (w0 : World) (hb : Below B w0 w) (hBb : B ≤ b)
    (h : ∀ w', BysAt b (bL x ++ l.drop x.size) w' → Below B w0 w' → wpList Tryz.prog ops Q rest (a.put o.dst (goInt x.size)) w') : wpList Tryz.prog ops Q (o :: rest) a w := by
  refine wpList_plain hgd fun K hK => ?_
  have hrun := Lib.run_copy_row_string (P := Tryz.prog) w 103 9 o.type 5 b 0 dLen dCap x _ _ (by kernel_rfl) (by kernel_rfl) hg hle (by simpa [byVs] using hfit)
  have e : (List.take 0 (byVs l).toArray.toList ++ Lib.byteCells x.data.toList ++ List.drop (0 + x.size) (byVs l).toArray.toList).toArray = (byVs (bL x ++ l.drop x.size)).toArray := by
    rw [byVs_append, byVs_bL, Nat.zero_add]
    simp [byVs]
  rw [e] at hrun
  unfold Oper.wp
  simp [execOp, ho, resolve, invoke, builtin, hd, hs, hrun, Result.andThen]
  exact hK _ _ (h _ (hg.row _) (below_setRow hb hBb _))
end Go.Proofs.YtikpmkidfppknaaGreatDoor

/- The checks: isKey, isAsked, isChallenge; Right. -/
namespace Go.Proofs.YtikpmkidfppknaaGreatDoor
open Go.RowKit Go.Shelf
attribute [local go_sem] Oper.semAt_some

def isKeyB (key : ByteArray) : Bool := decide (1 ≤ key.size ∧ key.size ≤ 64)
def isChB (s : ByteArray) : Bool := decide (s.size = 32)
def isAskB (n : Int) : Bool := decide (0 ≤ n ∧ n ≤ 2147483647)
theorem isKey_c (key : ByteArray) (w : World) : Calls Tryz.prog 45 #[.string key] w fun r w' => r = .returned (.func (.func 68) #[] #[.pointer (some ⟨w.heap.size, 0, none⟩)]) ∧ w' = w.alloc (.cells #[.string key] 9) := by
  go_enter Tryz.func45, Tryz.ntmps45
  go_wp2
  go_ret
  exact ⟨rfl, rfl⟩
theorem isChallenge_c (key : ByteArray) (w : World) : Calls Tryz.prog 46 #[.string key] w fun r w' => r = .returned (.func (.func 69) #[] #[.pointer (some ⟨w.heap.size, 0, none⟩)]) ∧ w' = w.alloc (.cells #[.string key] 9) := by
  go_enter Tryz.func46, Tryz.ntmps46
  go_wp2
  go_ret
  exact ⟨rfl, rfl⟩
set_option maxRecDepth 100000 in
set_option maxHeartbeats 4000000 in
theorem isAsked_c (n : Int) (w : World) : Calls Tryz.prog 42 #[.int .i64 n] w fun r w' => r = .returned (.func (.func 55) #[] #[.pointer (some ⟨w.heap.size, 0, none⟩), .pointer (some ⟨w.heap.size + 1, 0, none⟩), .pointer (some ⟨w.heap.size + 2, 0, none⟩), .pointer (some ⟨w.heap.size + 3, 0, none⟩)]) ∧ w' = (((w.alloc (.cells #[.int .i64 n] 3)).alloc (.cells #[.int .i64 0] 3)).alloc (.cells #[.int .i64 2147483647] 3)).alloc (.cells #[.int .i64 2] 26) := by
  go_enter Tryz.func42, Tryz.ntmps42
  go_wp2
  go_ret
  exact ⟨rfl, rfl⟩
theorem empty_ne (key : ByteArray) : (key ≠ ⟨#[]⟩) ↔ 1 ≤ key.size := by
  constructor
  · intro h
    rcases Nat.eq_zero_or_pos key.size with h0 | h1
    · exact absurd (ByteArray.ext (Array.eq_empty_of_size_eq_zero h0)) h
    · exact h1
  · rintro h rfl
    exact absurd h (by decide)
set_option maxRecDepth 100000 in
set_option maxHeartbeats 4000000 in
theorem isKey1_c (key : ByteArray) (b : Nat) (w : World) (hk : w.cell? ⟨b, 0, none⟩ = some (.string key)) : Calls Tryz.prog 68 #[.pointer (some ⟨b, 0, none⟩)] w fun r w' => r = .returned (errV (isKeyB key) 50) ∧ Below w.heap.size w w' := by
  have HU := Lib.hid (fun b => unless_c w b 50)
  by_cases h0 : 1 ≤ key.size
  · have hne := (empty_ne key).2 h0
    have hem : key.toList.isEmpty = false := by
      cases h : key.toList with
      | nil =>
        rw [Go.ByteArray.toList_eq] at h
        have hz : key.size = 0 := by show key.data.size = 0; rw [← Array.length_toList, h]; rfl
        omega
      | cons a l => rfl
    by_cases h1 : key.size ≤ 64
    · have h1' : (key.size : Int) ≤ 64 := by omega
      have he : isKeyB key = true := decide_eq_true ⟨h0, h1⟩
      go_enter Tryz.func68, Tryz.ntmps68
      go_wp2_with fail
      refine (HU.out true).mono ?_
      rintro e w1 ⟨rfl, rfl⟩
      go_wp2
      go_ret
      exact ⟨by rw [he]; rfl, Below.refl _ _⟩
    · have h1' : ¬ (key.size : Int) ≤ 64 := by omega
      have he : isKeyB key = false := decide_eq_false (by omega)
      go_enter Tryz.func68, Tryz.ntmps68
      go_wp2_with fail
      refine (HU.out false).mono ?_
      rintro e w1 ⟨rfl, rfl⟩
      go_wp2
      go_ret
      exact ⟨by rw [he]; rfl, Below.refl _ _⟩
  · obtain rfl : key = ⟨#[]⟩ := Classical.byContradiction fun h => h0 ((empty_ne key).1 h)
    go_enter Tryz.func68, Tryz.ntmps68
    go_wp2_with fail
    refine (HU.out false).mono ?_
    rintro e w1 ⟨rfl, rfl⟩
    go_wp2
    go_ret
    exact ⟨rfl, Below.refl _ _⟩
set_option maxRecDepth 100000 in
set_option maxHeartbeats 4000000 in
theorem isChallenge1_c (key : ByteArray) (b : Nat) (w : World) (hk : w.cell? ⟨b, 0, none⟩ = some (.string key)) : Calls Tryz.prog 69 #[.pointer (some ⟨b, 0, none⟩)] w fun r w' => r = .returned (errV (isChB key) 2) ∧ Below w.heap.size w w' := by
  have HU := Lib.hid (fun b => unless_c w b 2)
  by_cases h1 : key.size = 32
  · have h1' : (key.size : Int) = 32 := by omega
    have he : isChB key = true := decide_eq_true h1
    go_enter Tryz.func69, Tryz.ntmps69
    go_wp2_with fail
    refine (HU.out true).mono ?_
    rintro e w1 ⟨rfl, rfl⟩
    go_wp2
    go_ret
    exact ⟨by rw [he]; rfl, Below.refl _ _⟩
  · have h1' : ¬ (key.size : Int) = 32 := by omega
    have hbe : ((key.size : Int) == 32) = false := beq_eq_false_iff_ne.2 h1'
    have he : isChB key = false := decide_eq_false h1
    go_enter Tryz.func69, Tryz.ntmps69
    go_wp2_with fail
    try rw [hbe]
    refine (HU.out false).mono ?_
    rintro e w1 ⟨rfl, rfl⟩
    go_wp2
    go_ret
    exact ⟨by rw [he]; rfl, Below.refl _ _⟩
set_option maxRecDepth 100000 in
set_option maxHeartbeats 4000000 in
theorem between1_c (n : Int) (b0 b1 b2 b3 : Nat) (w : World) (h0 : w.cell? ⟨b0, 0, none⟩ = some (.int .i64 n)) (h1 : w.cell? ⟨b1, 0, none⟩ = some (.int .i64 0)) (h2 : w.cell? ⟨b2, 0, none⟩ = some (.int .i64 2147483647)) (h3 : w.cell? ⟨b3, 0, none⟩ = some (.int .i64 2)) : Calls Tryz.prog 55 #[.pointer (some ⟨b0, 0, none⟩), .pointer (some ⟨b1, 0, none⟩), .pointer (some ⟨b2, 0, none⟩), .pointer (some ⟨b3, 0, none⟩)] w fun r w' => r = .returned (errV (isAskB n) 2) ∧ Below w.heap.size w w' := by
  have HU := Lib.hid (fun b => unless_c w b 2)
  by_cases k0 : 0 ≤ n
  · by_cases k1 : n ≤ 2147483647
    · have he : isAskB n = true := decide_eq_true ⟨k0, k1⟩
      go_enter Tryz.func55, Tryz.ntmps55
      go_wp2_with fail
      refine (HU.out true).mono ?_
      rintro e w1 ⟨rfl, rfl⟩
      go_wp2
      go_ret
      exact ⟨by rw [he]; rfl, Below.refl _ _⟩
    · have he : isAskB n = false := decide_eq_false (by omega)
      go_enter Tryz.func55, Tryz.ntmps55
      go_wp2_with fail
      refine (HU.out false).mono ?_
      rintro e w1 ⟨rfl, rfl⟩
      go_wp2
      go_ret
      exact ⟨by rw [he]; rfl, Below.refl _ _⟩
  · have he : isAskB n = false := decide_eq_false (by omega)
    go_enter Tryz.func55, Tryz.ntmps55
    go_wp2_with fail
    refine (HU.out false).mono ?_
    rintro e w1 ⟨rfl, rfl⟩
    go_wp2
    go_ret
    exact ⟨by rw [he]; rfl, Below.refl _ _⟩
end Go.Proofs.YtikpmkidfppknaaGreatDoor

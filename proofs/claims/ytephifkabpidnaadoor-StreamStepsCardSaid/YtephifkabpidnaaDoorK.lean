/- Where the loops of the walk through what is reached stand, and how they go on. -/
import Derived.Test.YtephifkabpidnaaDoorJ
namespace Go.Proofs.YtephifkabpidnaaDoor
open Go.RowKit Go.Shelf

theorem IntsAt.lies {n : Nat} {A B : World} {a : Option Addr} {zs : List Int} (h : IntsAt n A a zs) (k : Lies A B) : IntsAt n B a zs := fun i hi => by
  obtain ⟨b, off, e, hb, hc⟩ := h i hi
  obtain ⟨o, ho, hc'⟩ := cells_of_cell hc
  exact ⟨b, off, e, hb, (World.cell?_of_block (w := A) ((k.same b o ho (.inl hc')).trans ho.symm)).trans hc⟩
theorem IntsAt.grown {n : Nat} {A B : World} {row : Option Nat} {a : Option Addr} {zs : List Int} (h : IntsAt n A a zs) (g : A.grownBy B row) (hr : ∀ r, row = some r → ∀ ad, a = some ad → ad.block < n → ad.block ≠ r) : IntsAt n B a zs := fun i hi => by
  obtain ⟨b, off, e, hb, hc⟩ := h i hi
  exact ⟨b, off, e, hb, (World.cell?_of_block (w := A) (g.block b (blt hc) (fun e' => hr _ e'.symm _ e hb rfl))).trans hc⟩
/-- A block that holds no cells may be written. -/
theorem IntsAt.grown_map {n : Nat} {A B : World} {row : Option Nat} {a : Option Addr} {zs : List Int} (h : IntsAt n A a zs) (g : A.grownBy B row) (hr : ∀ r, row = some r → ∃ o : Obj, A.heap[r]? = some o ∧ o.isCells = false) : IntsAt n B a zs := fun i hi => by
  obtain ⟨b, off, e, hb, hc⟩ := h i hi
  exact ⟨b, off, e, hb, cell_kept hc g hr⟩
theorem OwnP.lies {base : Nat} {A B : World} {v : Value} {zs : List Int} (h : OwnP base A v zs) (k : Lies A B) : OwnP base B v zs := by
  refine ⟨h.1, ?_⟩
  rcases h.2 with hn | ⟨g, cap, cur, rfl, hb, hg, rest⟩
  · exact .inl hn
  · exact .inr ⟨g, cap, cur, rfl, hb, k.same _ _ hg (.inl rfl), rest⟩
theorem OwnP.form2 {base : Nat} {w : World} {v : Value} {zs : List Int} (h : OwnP base w v zs) : ∃ a c, v = .slice a zs.length c ∧ IntsAt w.heap.size w a zs ∧ v.ownBlock = a.map (·.block) ∧ ∀ ad, a = some ad → base ≤ ad.block ∧ ad.block < w.heap.size := by
  rcases h.2 with ⟨rfl, hn⟩ | ⟨g, cap, cur, rfl, hb, hg, _⟩
  · exact ⟨none, 0, by rw [hn], fun i hi => by omega, rfl, fun _ e => by cases e⟩
  · have hlt := (Array.getElem?_eq_some_iff.1 hg).1
    refine ⟨some ⟨g, 0, none⟩, cap, rfl, fun i hi => ⟨g, 0, rfl, hlt, ?_⟩, rfl, fun _ e => by cases e; exact ⟨hb, hlt⟩⟩
    have := World.ownsRow.cellAt h i (by omega)
    rw [Nat.zero_add, this]
    simp [intVs, hi]

/-- The map of what was met, at a block. -/
def MapAt (bm : Nat) (l : List Int) (W : World) : Prop := W.ownsMap Tryd.prog 37 (plainElem (H := Unit) Tryd.prog 4) bm l.length (metD l)
theorem MapAt.noCells {bm : Nat} {l : List Int} {W : World} (h : MapAt bm l W) : ∀ r, some bm = some r → ∃ o : Obj, W.heap[r]? = some o ∧ o.isCells = false := fun r e => by
  obtain ⟨es, clock, hb, _⟩ := h
  cases e
  exact ⟨_, hb, rfl⟩
theorem MapAt.lies {bm : Nat} {l : List Int} {A B : World} (h : MapAt bm l A) (k : Lies A B) : MapAt bm l B := by
  obtain ⟨es, clock, hb, F, hs, hD⟩ := h
  exact ⟨es, clock, k.same _ _ hb (.inr rfl), F, hs, hD⟩

/-- At the head of the loop through the levels. -/
structure R1 (bm : Nat) (J : List (Int × Int) → World → Prop) (s : Int) (k : Nat) (front : Value) (W : World) : Prop where
  fr : ∃ a c, front = .slice a (lev s k).2.length c ∧ IntsAt W.heap.size W a (lev s k).2
  mp : MapAt bm (lev s k).1 W
  j : J (told s k) W
/-- At the head of the loop through a level. -/
structure R2 (T bm : Nat) (J : List (Int × Int) → World → Prop) (a : Option Addr) (M F : List Int) (pre : List (Int × Int)) (k : Int) (j : Nat) (next : Value) (W : World) : Prop where
  nx : OwnP T W next (levL (M, []) (F.take j)).2
  mp : MapAt bm (levL (M, []) (F.take j)).1 W
  j : J (pre ++ (F.take j).map fun x => (x, k)) W
  fr : IntsAt T W a F
  sz : T ≤ W.heap.size
/-- At the head of the loop through what one event leads to. -/
structure R3 (T bm : Nat) (J : World → Prop) (a : Option Addr) (F : List Int) (p : List Int × List Int) (a3 : Option Addr) (l : List Int) (i : Nat) (next : Value) (W : World) : Prop where
  nx : OwnP T W next (seeL p (l.take i)).2
  mp : MapAt bm (seeL p (l.take i)).1 W
  j : J W
  fr : IntsAt T W a F
  it : IntsAt W.heap.size W a3 l
  ap : ∀ ad, a3 = some ad → next.ownBlock ≠ some ad.block ∧ ad.block < W.heap.size
  sz : T ≤ W.heap.size

variable {T bm B0 k : Nat} {J : List (Int × Int) → World → Prop} {s : Int}

theorem R1.start2 {front : Value} {W : World} (h : R1 bm J s k front W) : ∃ a c, front = .slice a (lev s k).2.length c ∧ bm < W.heap.size ∧ R2 W.heap.size bm J a (lev s k).1 (lev s k).2 (told s k) k 0 (.slice none 0 0) W := by
  obtain ⟨a, c, e, hf⟩ := h.fr
  exact ⟨a, c, e, h.mp.lt, World.ownsRow_nil _ _ _ _, h.mp, by simpa using h.j, hf, Nat.le_refl _⟩
theorem R2.done {a : Option Addr} {next : Value} {W : World} (h : R2 T bm J a (lev s k).1 (lev s k).2 (told s k) k (lev s k).2.length next W) : R1 bm J s (k + 1) next W := by
  have h1 := h.nx
  have h2 := h.mp
  have h3 := h.j
  rw [List.take_length] at h1 h2 h3
  obtain ⟨a', c', e, hI, _⟩ := h1.form2
  exact ⟨⟨a', c', e, hI⟩, h2, h3⟩

/-- Behind the yield and the call that tells where events lead. -/
theorem R2.start3 {a : Option Addr} {M F : List Int} {pre : List (Int × Int)} {kk : Int} {j : Nat} {next : Value} {W W1 W2 : World} (h : R2 T bm J a M F pre kk j next W) (hj : j < F.length) (hk : Lies W W1)
    (hJ : J ((pre ++ (F.take j).map fun x => (x, kk)) ++ [(F[j], kk)]) W1) (hF : ∀ q, Firm B0 (J q)) (hb : Below W1.heap.size W1 W2) {v : Value} {l : List Int} (hv : OwnP W1.heap.size W2 v l) :
    ∃ a3 c3, v = .slice a3 l.length c3 ∧ R3 T bm (J (pre ++ (F.take (j + 1)).map fun x => (x, kk))) a F (levL (M, []) (F.take j)) a3 l 0 next W2 := by
  obtain ⟨a3, c3, e, hI, _, hA⟩ := hv.form2
  have hg := grown_of_below hb
  have hn := h.nx.lies hk
  refine ⟨a3, c3, e, by simpa [seeL] using hn.on hb, ?_, ?_, ?_, hI, ?_, ?_⟩
  · simpa [seeL, MapAt] using (h.mp.lies hk).kept hg (by simp)
  · rw [take_snoc F j hj, List.map_append, ← List.append_assoc]
    exact hF _ _ _ none hJ hg (fun _ e => by cases e)
  · exact (h.fr.lies hk).below (hb.mono (Nat.le_trans h.sz hk.size))
  · intro ad ea
    refine ⟨fun e => ?_, (hA ad ea).2⟩
    have := (World.ownsRow.lt hn _ e).2
    have := (hA ad ea).1
    omega
  · exact Nat.le_trans h.sz (Nat.le_trans hk.size hb.size)
theorem R3.done {a a3 : Option Addr} {M F : List Int} {pre : List (Int × Int)} {kk : Int} {j : Nat} (hj : j < F.length) {next : Value} {W : World}
    (h : R3 T bm (J (pre ++ (F.take (j + 1)).map fun x => (x, kk))) a F (levL (M, []) (F.take j)) a3 (nextsUpto F[j] 6) (nextsUpto F[j] 6).length next W) : R2 T bm J a M F pre kk (j + 1) next W := by
  have h1 := h.nx
  have h2 := h.mp
  rw [List.take_length, ← levL_snoc, ← take_snoc F j hj] at h1 h2
  exact ⟨h1, h2, h.j, h.fr, h.sz⟩

variable {K : World → Prop} {a a3 : Option Addr} {F l : List Int} {p : List Int × List Int} {i : Nat} {next : Value} {W : World}
theorem R3.old (h : R3 T bm K a F p a3 l i next W) (hi : i < l.length) (hx : l[i] ∈ (seeL p (l.take i)).1) : R3 T bm K a F p a3 l (i + 1) next W := by
  have e : seeL p (l.take (i + 1)) = seeL p (l.take i) := by rw [take_snoc l i hi, seeL_snoc]; simp [see1, hx]
  exact ⟨by rw [e]; exact h.nx, by rw [e]; exact h.mp, h.j, h.fr, h.it, h.ap, h.sz⟩
theorem R3.new (h : R3 T bm K a F p a3 l i next W) (hi : i < l.length) (hx : l[i] ∉ (seeL p (l.take i)).1) (hF : Firm B0 K) (hB : B0 ≤ bm) (hT : bm < T) {W1 W2 : World} {o : Obj} {v : Value}
    (h1 : W1.ownsMap Tryd.prog 37 (plainElem (H := Unit) Tryd.prog 4) bm ((seeL p (l.take i)).1.length + 1) ((metD (seeL p (l.take i)).1).put (.int .i64 l[i]) (.lit (.bool true)))) (g1 : W.grownBy W1 (some bm))
    (h2 : W2.ownsRow T 37 1 v ((seeL p (l.take i)).2.length + 1) (intVs (seeL p (l.take i)).2 ++ [.int .i64 l[i]])) (g2 : (W1.alloc o).grownBy W2 next.ownBlock) (hat : v.ownBlock = next.ownBlock ∨ v.ownBlock = some (W1.alloc o).heap.size) :
    R3 T bm K a F p a3 l (i + 1) v W2 := by
  have e : seeL p (l.take (i + 1)) = ((seeL p (l.take i)).1 ++ [l[i]], (seeL p (l.take i)).2 ++ [l[i]]) := by rw [take_snoc l i hi, seeL_snoc]; simp [see1, hx]
  have hlt := World.ownsRow.lt h.nx
  have z1 := g1.size
  have z2 := g2.size
  have hga : W1.grownBy (W1.alloc o) none := World.grownBy_alloc W1 o none
  have hz : (W1.alloc o).heap.size = W1.heap.size + 1 := by simp
  have hmn := h.mp.noCells
  have hmn' : ∀ r, next.ownBlock = some r → B0 ≤ r := fun r e => by have := (hlt r e).1; omega
  refine ⟨?_, ?_, ?_, ?_, ?_, ?_, ?_⟩
  · rw [e]; unfold OwnP; simpa [intVs] using h2
  · rw [e]; unfold MapAt; rw [metD_snoc]
    have := (h1.alloc o).kept g2 (fun e => by have := (hlt _ e.symm).1; omega)
    simpa using this
  · exact hF _ _ _ (hF _ _ none (hF _ _ _ h.j g1 (fun r e => by cases e; exact hB)) hga (fun _ e => by cases e)) g2 hmn'
  · exact ((h.fr.grown_map g1 hmn).grown hga (fun _ e => by cases e)).grown g2 (fun r e ad _ hb he => by have := (hlt r e).1; omega)
  · exact (((h.it.grown_map g1 hmn).grown hga (fun _ e => by cases e)).grown g2 (fun r e ad ea _ he => (h.ap ad ea).1 (by rw [e, he]))).mono (by omega)
  · intro ad ea
    obtain ⟨q1, q2⟩ := h.ap ad ea
    refine ⟨?_, by omega⟩
    rcases hat with hat | hat
    · rw [hat]; exact q1
    · rw [hat]; intro e; have := Option.some.inj e; omega
  · have := h.sz; omega
end Go.Proofs.YtephifkabpidnaaDoor

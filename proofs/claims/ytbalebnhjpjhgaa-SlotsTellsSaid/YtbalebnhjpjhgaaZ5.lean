/- RC -/
import Derived.Test.YtbalebnhjpjhgaaZ4
/- The document's Own. -/
namespace Go.Proofs.Ytbalebnhjpjhgaa.L9
open Go.RowKit Go.Shelf
attribute [local go_sem] Oper.semAt_some
set_option linter.unusedSimpArgs false
set_option linter.unusedVariables false

theorem wp_app {P : Program} {o : Oper} {a : Act} {w w' : World} {K : Act → World → Prop} {Q : Exit → Act → World → Prop} {s x : Operand} {t : TypeId} {v' vs vx : Value} (ho : o.op = .call { callee := .builtin .append, args := #[s, x], argTypes := #[t, t] }) (hs : a.eval s = vs) (hx : a.eval x = vx)
    (hr : (Builtin.append_ #[t, t] o.type #[vs, vx]).run P w = .ok v' w') (h : K (a.put o.dst v') w') : o.wp P a w K Q := by
  unfold Oper.wp execOp
  simp only [ho, resolve, invoke, builtin, Sem.run_bind, Sem.run_pure, Result.andThen_ok, List.map_toArray, List.map_cons, List.map_nil, hs, hx, hr]
  exact h
theorem run_append_none_c {P : Program} {w : World} (base : Nat) (t ty e : TypeId) (i : TypeInfo) (size : Nat) (ht : P.underlying t = some (.slice e)) (hi : P.info? e = some i) (hsz : i.size = size) (c : Nat)
    (v : Value) (n : Nat) (xs : List Value) (hown : w.ownsRow base e size v n xs) :
    (Builtin.append_ #[t, t] ty #[v, .slice none 0 c]).run P w = .ok v w := by
  rcases hown.2 with ⟨rfl, rfl⟩ | ⟨g, cap, cur, rfl, _, _, hnc, _⟩
  · simp [Builtin.append_, run_underlying ht, sizeOf, typeInfo, hi, Builtin.lenOf, Builtin.firstCells]
  · simp [Builtin.append_, run_underlying ht, sizeOf, typeInfo, hi, Builtin.lenOf, Builtin.firstCells, hnc, storeCells]
theorem appI (n0 : Nat) (a : Option Addr) (c : Nat) (zs : List Int) (hl : zs.length ≤ 1000) (V W : World) (g : Nat) (hn : n0 ≤ W.heap.size) (hb : Below n0 V W) (hI : IntsAt n0 V a zs) (ho : OwnI n0 W (.slice (some ⟨g, 0, none⟩) 0 0) []) :
    ∃ v' w', (Builtin.append_ #[22, 22] 22 #[.slice (some ⟨g, 0, none⟩) 0 0, .slice a zs.length c]).run Try.prog W = .ok v' w' ∧ OwnI n0 w' v' zs ∧ W.grownBy w' (some g) ∧ (v'.ownBlock = some g ∨ v'.ownBlock = some W.heap.size) := by
  obtain ⟨i0, hi0, hz0, hz1, hz2⟩ := info_parts info3
  cases a with
  | none =>
    have h0 : zs = [] := by
      match zs, hI with
      | [], _ => rfl
      | x :: l, hI => obtain ⟨b, off, e, _⟩ := hI 0 (by simp); cases e
    subst h0
    refine ⟨_, W, run_append_none_c n0 22 22 3 i0 1 Try.underlying22 hi0 hz1 c _ 0 [] ho, ho, ⟨rfl, rfl, rfl, Nat.le_refl _, fun _ _ _ => rfl⟩, Or.inl rfl⟩
  | some ad =>
    have hn2 : ∀ j u, (intVs zs)[j]? = some u → W.cell? (ad.add j) = some u := fun j u hj => by
      have hjl : j < zs.length := by have := (List.getElem?_eq_some_iff.1 hj).1; simpa using this
      obtain ⟨b, off, e, hlt, hc⟩ := (hI.below hb) j hjl
      simp at e; subst e
      have he : u = Value.int .i64 zs[j] := by simpa [intVs, hjl] using hj.symm
      rw [add_at, he]
      exact hc
    have h1c : ∀ u ∈ intVs zs, u.oneCell' = true := fun u hu => by
      obtain ⟨z, _, rfl⟩ := List.mem_map.1 hu
      rfl
    obtain ⟨v', w', hr, h2, h3, _, h5⟩ := run_append_own_at (P := Try.prog) (w := W) n0 22 22 3 i0 _ 1 8 Try.underlying22 hi0 hz0 hz1 hz2 rfl (by omega) (.slice (some ⟨g, 0, none⟩) 0 0) 0 [] ho ad zs.length c (intVs zs) (by simp) hn2 h1c (by simp [maxLen]; omega) (by omega) hn
    refine ⟨v', w', hr, ?_, h3, h5⟩
    rw [Nat.zero_add, List.nil_append] at h2
    exact h2
theorem appB (n0 : Nat) (a : Option Addr) (c : Nat) (zs : List Bool) (hl : zs.length ≤ 1000) (V W : World) (g : Nat) (hn : n0 ≤ W.heap.size) (hb : Below n0 V W) (hI : BoolsAt n0 V a zs) (ho : OwnB n0 W (.slice (some ⟨g, 0, none⟩) 0 0) []) :
    ∃ v' w', (Builtin.append_ #[23, 23] 23 #[.slice (some ⟨g, 0, none⟩) 0 0, .slice a zs.length c]).run Try.prog W = .ok v' w' ∧ OwnB n0 w' v' zs ∧ W.grownBy w' (some g) ∧ (v'.ownBlock = some g ∨ v'.ownBlock = some W.heap.size) := by
  obtain ⟨i0, hi0, hz0, hz1, hz2⟩ := info_parts info4
  cases a with
  | none =>
    have h0 : zs = [] := by
      match zs, hI with
      | [], _ => rfl
      | x :: l, hI => obtain ⟨b, off, e, _⟩ := hI 0 (by simp); cases e
    subst h0
    refine ⟨_, W, run_append_none_c n0 23 23 4 i0 1 Try.underlying23 hi0 hz1 c _ 0 [] ho, ho, ⟨rfl, rfl, rfl, Nat.le_refl _, fun _ _ _ => rfl⟩, Or.inl rfl⟩
  | some ad =>
    have hn2 : ∀ j u, (boolVs zs)[j]? = some u → W.cell? (ad.add j) = some u := fun j u hj => by
      have hjl : j < zs.length := by have := (List.getElem?_eq_some_iff.1 hj).1; simpa using this
      obtain ⟨b, off, e, hlt, hc⟩ := (hI.below hb) j hjl
      simp at e; subst e
      have he : u = Value.bool zs[j] := by simpa [boolVs, hjl] using hj.symm
      rw [add_at, he]
      exact hc
    have h1c : ∀ u ∈ boolVs zs, u.oneCell' = true := fun u hu => by
      obtain ⟨z, _, rfl⟩ := List.mem_map.1 hu
      rfl
    obtain ⟨v', w', hr, h2, h3, _, h5⟩ := run_append_own_at (P := Try.prog) (w := W) n0 23 23 4 i0 _ 1 1 Try.underlying23 hi0 hz0 hz1 hz2 rfl (by omega) (.slice (some ⟨g, 0, none⟩) 0 0) 0 [] ho ad zs.length c (boolVs zs) (by simp) hn2 h1c (by simp [maxLen]; omega) (by omega) hn
    refine ⟨v', w', hr, ?_, h3, h5⟩
    rw [Nat.zero_add, List.nil_append] at h2
    exact h2
/-- How far three copies are: none yet, a new row, a row of all. -/
structure St (n0 : Nat) (V W : World) (x : Option (Value × List Int)) (y : Option (Value × List Bool)) (z : Option (Value × List Int)) : Prop where
  n : n0 ≤ V.heap.size
  b : Below n0 V W
  px : ∀ v l, x = some (v, l) → OwnI n0 W v l
  py : ∀ v l, y = some (v, l) → OwnB n0 W v l
  pz : ∀ v l, z = some (v, l) → OwnI n0 W v l
  dxy : ∀ v l u m, x = some (v, l) → y = some (u, m) → ∀ g, v.ownBlock = some g → u.ownBlock ≠ some g
  dxz : ∀ v l u m, x = some (v, l) → z = some (u, m) → ∀ g, v.ownBlock = some g → u.ownBlock ≠ some g
  dyz : ∀ v l u m, y = some (v, l) → z = some (u, m) → ∀ g, v.ownBlock = some g → u.ownBlock ≠ some g
theorem St.al_x {n0 : Nat} {V W : World} {y : Option (Value × List Bool)} {z : Option (Value × List Int)} (h : St n0 V W none y z) : St n0 V (W.alloc (.cells #[] 3)) (some (.slice (some ⟨W.heap.size, 0, none⟩) 0 0, [])) y z where
  n := h.n
  b := h.b.alloc (Nat.le_trans h.n h.b.size) _
  px := fun v l e => by
    cases e
    exact World.ownsRow_lit W #[] 0 (Nat.le_trans h.n h.b.size) (by simp [maxLen]) rfl
  py := fun v l e => (h.py v l e).al
  pz := fun v l e => (h.pz v l e).al
  dxy := fun v l u m e1 e2 g eg eu => by
    cases e1
    simp [Value.ownBlock] at eg
    have := ((h.py u m e2).lt g eu).2
    omega
  dxz := fun v l u m e1 e2 g eg eu => by
    cases e1
    simp [Value.ownBlock] at eg
    have := ((h.pz u m e2).lt g eu).2
    omega
  dyz := h.dyz
theorem St.ap_x {n0 g : Nat} {V W : World} {y : Option (Value × List Bool)} {z : Option (Value × List Int)} (h : St n0 V W (some (.slice (some ⟨g, 0, none⟩) 0 0, [])) y z) (a : Option Addr) (c : Nat) (zs : List Int) (hl : zs.length ≤ 1000) (hI : IntsAt n0 V a zs) :
    ∃ v' w', (Builtin.append_ #[22, 22] 22 #[.slice (some ⟨g, 0, none⟩) 0 0, .slice a zs.length c]).run Try.prog W = .ok v' w' ∧ St n0 V w' (some (v', zs)) y z := by
  have hp := h.px _ _ rfl
  obtain ⟨v', w', hr, ho, hg, hb⟩ := appI n0 a c zs hl V W g (Nat.le_trans h.n h.b.size) h.b hI hp
  have hgn : n0 ≤ g := (hp.lt g rfl).1
  have ny : ∀ u m, y = some (u, m) → u.ownBlock ≠ some g := fun u m e eu => h.dxy _ _ u m rfl e g rfl eu
  have my : ∀ u m, y = some (u, m) → ∀ j, u.ownBlock = some j → v'.ownBlock ≠ some j := fun u m e j eu ev => by
    rcases hb with hb | hb
    · exact ny u m e (eu.trans (ev.symm.trans hb))
    · have := ((h.py u m e).lt j eu).2
      rw [hb] at ev
      injection ev with ev
      omega
  have nz : ∀ u m, z = some (u, m) → u.ownBlock ≠ some g := fun u m e eu => h.dxz _ _ u m rfl e g rfl eu
  have mz : ∀ u m, z = some (u, m) → ∀ j, u.ownBlock = some j → v'.ownBlock ≠ some j := fun u m e j eu ev => by
    rcases hb with hb | hb
    · exact nz u m e (eu.trans (ev.symm.trans hb))
    · have := ((h.pz u m e).lt j eu).2
      rw [hb] at ev
      injection ev with ev
      omega
  refine ⟨v', w', hr, ⟨h.n, h.b.grown hg (Nat.le_trans h.n h.b.size) (fun r e => by injection e with e; omega), fun v l e => by cases e; exact ho, fun v l e => (h.py v l e).kept hg (Or.inr (ny v l e)), fun v l e => (h.pz v l e).kept hg (Or.inr (nz v l e)), fun v l u m e1 e2 j ej eu => by cases e1; exact my u m e2 j eu ej, fun v l u m e1 e2 j ej eu => by cases e1; exact mz u m e2 j eu ej, h.dyz⟩⟩
theorem St.al_y {n0 : Nat} {V W : World} {x : Option (Value × List Int)} {z : Option (Value × List Int)} (h : St n0 V W x none z) : St n0 V (W.alloc (.cells #[] 4)) x (some (.slice (some ⟨W.heap.size, 0, none⟩) 0 0, [])) z where
  n := h.n
  b := h.b.alloc (Nat.le_trans h.n h.b.size) _
  px := fun v l e => (h.px v l e).al
  py := fun v l e => by
    cases e
    exact World.ownsRow_lit W #[] 0 (Nat.le_trans h.n h.b.size) (by simp [maxLen]) rfl
  pz := fun v l e => (h.pz v l e).al
  dxy := fun v l u m e1 e2 g eg eu => by
    cases e2
    simp [Value.ownBlock] at eu
    have := ((h.px v l e1).lt g eg).2
    omega
  dxz := h.dxz
  dyz := fun v l u m e1 e2 g eg eu => by
    cases e1
    simp [Value.ownBlock] at eg
    have := ((h.pz u m e2).lt g eu).2
    omega
theorem St.ap_y {n0 g : Nat} {V W : World} {x : Option (Value × List Int)} {z : Option (Value × List Int)} (h : St n0 V W x (some (.slice (some ⟨g, 0, none⟩) 0 0, [])) z) (a : Option Addr) (c : Nat) (zs : List Bool) (hl : zs.length ≤ 1000) (hI : BoolsAt n0 V a zs) :
    ∃ v' w', (Builtin.append_ #[23, 23] 23 #[.slice (some ⟨g, 0, none⟩) 0 0, .slice a zs.length c]).run Try.prog W = .ok v' w' ∧ St n0 V w' x (some (v', zs)) z := by
  have hp := h.py _ _ rfl
  obtain ⟨v', w', hr, ho, hg, hb⟩ := appB n0 a c zs hl V W g (Nat.le_trans h.n h.b.size) h.b hI hp
  have hgn : n0 ≤ g := (hp.lt g rfl).1
  have nx : ∀ u m, x = some (u, m) → u.ownBlock ≠ some g := fun u m e eu => h.dxy u m _ _ e rfl g eu rfl
  have mx : ∀ u m, x = some (u, m) → ∀ j, u.ownBlock = some j → v'.ownBlock ≠ some j := fun u m e j eu ev => by
    rcases hb with hb | hb
    · exact nx u m e (eu.trans (ev.symm.trans hb))
    · have := ((h.px u m e).lt j eu).2
      rw [hb] at ev
      injection ev with ev
      omega
  have nz : ∀ u m, z = some (u, m) → u.ownBlock ≠ some g := fun u m e eu => h.dyz _ _ u m rfl e g rfl eu
  have mz : ∀ u m, z = some (u, m) → ∀ j, u.ownBlock = some j → v'.ownBlock ≠ some j := fun u m e j eu ev => by
    rcases hb with hb | hb
    · exact nz u m e (eu.trans (ev.symm.trans hb))
    · have := ((h.pz u m e).lt j eu).2
      rw [hb] at ev
      injection ev with ev
      omega
  refine ⟨v', w', hr, ⟨h.n, h.b.grown hg (Nat.le_trans h.n h.b.size) (fun r e => by injection e with e; omega), fun v l e => (h.px v l e).kept hg (Or.inr (nx v l e)), fun v l e => by cases e; exact ho, fun v l e => (h.pz v l e).kept hg (Or.inr (nz v l e)), fun v l u m e1 e2 j ej eu => by cases e2; exact mx v l e1 j ej eu, h.dxz, fun v l u m e1 e2 j ej eu => by cases e1; exact mz u m e2 j eu ej⟩⟩
theorem St.al_z {n0 : Nat} {V W : World} {x : Option (Value × List Int)} {y : Option (Value × List Bool)} (h : St n0 V W x y none) : St n0 V (W.alloc (.cells #[] 3)) x y (some (.slice (some ⟨W.heap.size, 0, none⟩) 0 0, [])) where
  n := h.n
  b := h.b.alloc (Nat.le_trans h.n h.b.size) _
  px := fun v l e => (h.px v l e).al
  py := fun v l e => (h.py v l e).al
  pz := fun v l e => by
    cases e
    exact World.ownsRow_lit W #[] 0 (Nat.le_trans h.n h.b.size) (by simp [maxLen]) rfl
  dxy := h.dxy
  dxz := fun v l u m e1 e2 g eg eu => by
    cases e2
    simp [Value.ownBlock] at eu
    have := ((h.px v l e1).lt g eg).2
    omega
  dyz := fun v l u m e1 e2 g eg eu => by
    cases e2
    simp [Value.ownBlock] at eu
    have := ((h.py v l e1).lt g eg).2
    omega
theorem St.ap_z {n0 g : Nat} {V W : World} {x : Option (Value × List Int)} {y : Option (Value × List Bool)} (h : St n0 V W x y (some (.slice (some ⟨g, 0, none⟩) 0 0, []))) (a : Option Addr) (c : Nat) (zs : List Int) (hl : zs.length ≤ 1000) (hI : IntsAt n0 V a zs) :
    ∃ v' w', (Builtin.append_ #[22, 22] 22 #[.slice (some ⟨g, 0, none⟩) 0 0, .slice a zs.length c]).run Try.prog W = .ok v' w' ∧ St n0 V w' x y (some (v', zs)) := by
  have hp := h.pz _ _ rfl
  obtain ⟨v', w', hr, ho, hg, hb⟩ := appI n0 a c zs hl V W g (Nat.le_trans h.n h.b.size) h.b hI hp
  have hgn : n0 ≤ g := (hp.lt g rfl).1
  have nx : ∀ u m, x = some (u, m) → u.ownBlock ≠ some g := fun u m e eu => h.dxz u m _ _ e rfl g eu rfl
  have mx : ∀ u m, x = some (u, m) → ∀ j, u.ownBlock = some j → v'.ownBlock ≠ some j := fun u m e j eu ev => by
    rcases hb with hb | hb
    · exact nx u m e (eu.trans (ev.symm.trans hb))
    · have := ((h.px u m e).lt j eu).2
      rw [hb] at ev
      injection ev with ev
      omega
  have ny : ∀ u m, y = some (u, m) → u.ownBlock ≠ some g := fun u m e eu => h.dyz u m _ _ e rfl g eu rfl
  have my : ∀ u m, y = some (u, m) → ∀ j, u.ownBlock = some j → v'.ownBlock ≠ some j := fun u m e j eu ev => by
    rcases hb with hb | hb
    · exact ny u m e (eu.trans (ev.symm.trans hb))
    · have := ((h.py u m e).lt j eu).2
      rw [hb] at ev
      injection ev with ev
      omega
  refine ⟨v', w', hr, ⟨h.n, h.b.grown hg (Nat.le_trans h.n h.b.size) (fun r e => by injection e with e; omega), fun v l e => (h.px v l e).kept hg (Or.inr (nx v l e)), fun v l e => (h.py v l e).kept hg (Or.inr (ny v l e)), fun v l e => by cases e; exact ho, h.dxy, fun v l u m e1 e2 j ej eu => by cases e2; exact mx v l e1 j ej eu, fun v l u m e1 e2 j ej eu => by cases e2; exact my v l e1 j ej eu⟩⟩
end Go.Proofs.Ytbalebnhjpjhgaa.L9

/- Number: what it takes. -/
import Derived.Test.YtlnjalhlbfbjcaaGreatDoorE
namespace Go.Proofs.YtlnjalhlbfbjcaaGreatDoor
open Go.RowKit Go.Shelf
attribute [local go_sem] Oper.semAt_some

/-- One more digit: the number and how many bytes it has, if that may be. -/
def stepD (most : Int) (st : Int × Int) (x : Dg) : Option (Int × Int) := if (x.p = 1 ∧ st.1 = 0) ∨ (x.d : Int) > most - 10 * st.1 then none else some (10 * st.1 + x.d, (x.p : Int) + 1)
def runD (most : Int) : Int × Int → List Dg → Option (Int × Int)
  | st, [] => some st
  | st, x :: r => match stepD most st x with
    | none => none
    | some st' => runD most st' r
theorem runD_snoc (most : Int) (st : Int × Int) (D : List Dg) (x : Dg) : runD most st (D ++ [x]) = (runD most st D).bind fun st' => stepD most st' x := by
  induction D generalizing st with
  | nil => simp only [List.nil_append, runD, Option.bind_some]; cases stepD most st x <;> rfl
  | cons y D ih =>
    simp only [List.cons_append, runD]
    cases stepD most st y with
    | none => rfl
    | some st' => exact ih st'
theorem step_none {most n k : Int} {x : Dg} (h : ((x.p : Int) = 1 ∧ n = 0) ∨ (x.d : Int) > most - 10 * n) : stepD most (n, k) x = none := by
  have h' : (x.p = 1 ∧ n = 0) ∨ (x.d : Int) > most - 10 * n := by omega
  unfold stepD
  exact if_pos h'
theorem step_some {most n k : Int} {x : Dg} (h1 : (x.p : Int) = 1 → n ≠ 0) (h2 : (x.d : Int) ≤ most - 10 * n) : stepD most (n, k) x = some (10 * n + x.d, (x.p : Int) + 1) := by
  have h' : ¬ ((x.p = 1 ∧ n = 0) ∨ (x.d : Int) > most - 10 * n) := by
    have : (x.p : Int) = 1 ↔ x.p = 1 := by omega
    rw [this] at h1
    rintro (⟨g1, g2⟩ | g)
    · exact h1 g1 g2
    · omega
  unfold stepD
  exact if_neg h'
theorem digN_len (i : Nat) (L : List UInt8) : (digN i L).length ≤ L.length := by
  induction L generalizing i with
  | nil => simp [digN]
  | cons c r ih =>
    simp only [digN]
    split
    · have := ih (i + 1); simp only [List.length_cons]; omega
    · simp
theorem runD_size {most : Int} {L : List UInt8} : ∀ {i : Nat} {m n k : Int}, runD most (m, (i : Int)) (digN i L) = some (n, k) → k = (i : Int) + (digN i L).length := by
  induction L with
  | nil => intro i m n k h; simp only [digN, runD, Option.some.injEq, Prod.mk.injEq] at h; simp only [digN, List.length_nil]; omega
  | cons c r ih =>
    intro i m n k h
    by_cases hc : (48 ≤ c.toNat ∧ c.toNat ≤ 57) ∧ i ≤ 1000
    · simp only [digN, dif_pos hc, runD] at h ⊢
      unfold stepD at h
      split at h
      · cases h
      · rename_i st' hs
        split at hs
        · cases hs
        · cases hs
          have := ih (i := i + 1) (by simpa using h)
          simp only [List.length_cons]
          omega
    · simp only [digN, dif_neg hc, runD, Option.some.injEq, Prod.mk.injEq] at h
      simp only [digN, dif_neg hc, List.length_nil]
      omega
theorem runD_none (most : Int) (st : Int × Int) (D r : List Dg) (h : runD most st D = none) : runD most st (D ++ r) = none := by
  induction D generalizing st with
  | nil => cases h
  | cons y D ih =>
    simp only [List.cons_append, runD] at h ⊢
    cases hs : stepD most st y with
    | none => rfl
    | some st' => rw [hs] at h; exact ih st' h
theorem runD_bound {most : Int} {D : List Dg} : ∀ {st st' : Int × Int}, 0 ≤ st.1 ∧ st.1 ≤ most ∧ 0 ≤ st.2 ∧ st.2 ≤ 1001 → runD most st D = some st' → 0 ≤ st'.1 ∧ st'.1 ≤ most ∧ 0 ≤ st'.2 ∧ st'.2 ≤ 1001 := by
  induction D with
  | nil => intro st st' h e; cases e; exact h
  | cons y D ih =>
    intro st st' h e
    simp only [runD] at e
    cases hs : stepD most st y with
    | none => rw [hs] at e; cases e
    | some s2 =>
      rw [hs] at e
      refine ih ?_ e
      unfold stepD at hs
      split at hs
      · cases hs
      · rename_i hn
        cases hs
        have := y.hp
        have := y.hd
        simp only [not_or] at hn
        simp only
        omega

/-- A reader: what is left of its text, and the cells behind it. -/
structure RdL (b : Nat) (s : ByteArray) (vs : List Value) (W : World) : Prop where
  c0 : W.cell? ⟨b, 0, none⟩ = some (.string s)
  f0 : W.frozen? ⟨b, 0, none⟩ = false
  cs : ∀ i v, vs[i]? = some v → W.cell? ⟨b, i + 1, none⟩ = some v ∧ W.frozen? ⟨b, i + 1, none⟩ = false
theorem RdL.on {b : Nat} {s : ByteArray} {vs : List Value} {W W' : World} (h : RdL b s vs W) (k : Below W.heap.size W W') : RdL b s vs W' :=
  have hb := blt h.c0
  ⟨(k.cell (p := ⟨b, 0, none⟩) hb).trans h.c0, (k.frozen (p := ⟨b, 0, none⟩) hb).trans h.f0,
    fun i v e => ⟨(k.cell (p := ⟨b, i + 1, none⟩) hb).trans (h.cs i v e).1, (k.frozen (p := ⟨b, i + 1, none⟩) hb).trans (h.cs i v e).2⟩⟩
theorem RdL.kept {b : Nat} {s : ByteArray} {vs : List Value} {W W' : World} {row : Option Nat} (h : RdL b s vs W) (g : W.grownBy W' row) (hr : ∀ r, row = some r → ∃ o : Obj, W.heap[r]? = some o ∧ o.isCells = false) : RdL b s vs W' :=
  ⟨cell_kept h.c0 g hr, (frozen_kept h.c0 g hr).trans h.f0, fun i v e => ⟨cell_kept (h.cs i v e).1 g hr, (frozen_kept (h.cs i v e).1 g hr).trans (h.cs i v e).2⟩⟩
theorem RdL.other {b b2 : Nat} {s : ByteArray} {vs : List Value} {W : World} (h : RdL b s vs W) (hne : b ≠ b2) (o : Nat) (v : Value) : RdL b s vs (W.setCell ⟨b2, o, none⟩ v) := by
  have f0 := h.f0
  exact ⟨(set_other W v hne).trans h.c0, by go_simp, fun i x e => ⟨(set_other W v hne).trans (h.cs i x e).1, by have := (h.cs i x e).2; go_simp⟩⟩
theorem RdL.set0 {b : Nat} {s : ByteArray} {vs : List Value} {W : World} (h : RdL b s vs W) (s' : ByteArray) : RdL b s' vs (W.setCell ⟨b, 0, none⟩ (.string s')) := by
  have c0 := h.c0
  have f0 := h.f0
  exact ⟨by go_simp, by go_simp, fun i x e => by have h1 := (h.cs i x e).1; have h2 := (h.cs i x e).2; exact ⟨by go_simp, by go_simp⟩⟩
theorem RdL.drew {b : Nat} {s : ByteArray} {vs : List Value} {W : World} (h : RdL b s vs W) : RdL b s vs W.drew := ⟨h.c0, h.f0, h.cs⟩
/-- A reader of two numbers. -/
def RdAt (b : Nat) (s : ByteArray) (A K : Int) (W : World) : Prop := RdL b s [.int .i64 A, .int .i64 K] W
theorem RdAt.c1 {b : Nat} {s : ByteArray} {A K : Int} {W : World} (h : RdAt b s A K W) : W.cell? ⟨b, 1, none⟩ = some (.int .i64 A) := (h.cs 0 _ rfl).1
theorem RdAt.c2 {b : Nat} {s : ByteArray} {A K : Int} {W : World} (h : RdAt b s A K W) : W.cell? ⟨b, 2, none⟩ = some (.int .i64 K) := (h.cs 1 _ rfl).1
theorem RdAt.f1 {b : Nat} {s : ByteArray} {A K : Int} {W : World} (h : RdAt b s A K W) : W.frozen? ⟨b, 1, none⟩ = false := (h.cs 0 _ rfl).2
theorem RdAt.f2 {b : Nat} {s : ByteArray} {A K : Int} {W : World} (h : RdAt b s A K W) : W.frozen? ⟨b, 2, none⟩ = false := (h.cs 1 _ rfl).2
theorem RdAt.c0 {b : Nat} {s : ByteArray} {A K : Int} {W : World} (h : RdAt b s A K W) : W.cell? ⟨b, 0, none⟩ = some (.string s) := RdL.c0 h
theorem RdAt.f0 {b : Nat} {s : ByteArray} {A K : Int} {W : World} (h : RdAt b s A K W) : W.frozen? ⟨b, 0, none⟩ = false := RdL.f0 h
theorem RdAt.mk' {b : Nat} {s : ByteArray} {A K : Int} {W : World} (c0 : W.cell? ⟨b, 0, none⟩ = some (.string s)) (c1 : W.cell? ⟨b, 1, none⟩ = some (.int .i64 A)) (c2 : W.cell? ⟨b, 2, none⟩ = some (.int .i64 K))
    (f0 : W.frozen? ⟨b, 0, none⟩ = false) (f1 : W.frozen? ⟨b, 1, none⟩ = false) (f2 : W.frozen? ⟨b, 2, none⟩ = false) : RdAt b s A K W :=
  ⟨c0, f0, fun i v e => by
    match i with
    | 0 => simp at e; subst e; exact ⟨c1, f1⟩
    | 1 => simp at e; subst e; exact ⟨c2, f2⟩
    | n + 2 => simp at e⟩
theorem RdAt.on {b : Nat} {s : ByteArray} {A K : Int} {W W' : World} (h : RdAt b s A K W) (k : Below W.heap.size W W') : RdAt b s A K W' := RdL.on h k
theorem RdAt.set1 {b : Nat} {s : ByteArray} {A K : Int} {W : World} (h : RdAt b s A K W) (A' : Int) : RdAt b s A' K (W.setCell ⟨b, 1, none⟩ (.int .i64 A')) := by
  have c0 := h.c0
  have c1 := h.c1
  have c2 := h.c2
  have f0 := h.f0
  have f1 := h.f1
  have f2 := h.f2
  exact RdAt.mk' (by go_simp) (by go_simp) (by go_simp) (by go_simp) (by go_simp) (by go_simp)
theorem RdAt.set2 {b : Nat} {s : ByteArray} {A K : Int} {W : World} (h : RdAt b s A K W) (K' : Int) : RdAt b s A K' (W.setCell ⟨b, 2, none⟩ (.int .i64 K')) := by
  have c0 := h.c0
  have c1 := h.c1
  have c2 := h.c2
  have f0 := h.f0
  have f1 := h.f1
  have f2 := h.f2
  exact RdAt.mk' (by go_simp) (by go_simp) (by go_simp) (by go_simp) (by go_simp) (by go_simp)

/-- Number's own cells. -/
structure NuAt (z : Nat) (most r : Int) (f : Bool) (n k : Int) (W : World) : Prop where
  c0 : W.cell? ⟨z, 0, none⟩ = some (.int .i64 most)
  c1 : W.cell? ⟨z + 1, 0, none⟩ = some (.int .i64 r)
  c2 : W.cell? ⟨z + 2, 0, none⟩ = some (.bool f)
  c3 : W.cell? ⟨z + 3, 0, none⟩ = some (.int .i64 n)
  c4 : W.cell? ⟨z + 4, 0, none⟩ = some (.int .i64 k)
  f1 : W.frozen? ⟨z + 1, 0, none⟩ = false
  f2 : W.frozen? ⟨z + 2, 0, none⟩ = false
  f3 : W.frozen? ⟨z + 3, 0, none⟩ = false
  f4 : W.frozen? ⟨z + 4, 0, none⟩ = false
theorem NuAt.kept {z : Nat} {most r n k : Int} {f : Bool} {W W' : World} {row : Option Nat} (h : NuAt z most r f n k W) (g : W.grownBy W' row) (hr : ∀ r, row = some r → ∃ o : Obj, W.heap[r]? = some o ∧ o.isCells = false) : NuAt z most r f n k W' :=
  ⟨cell_kept h.c0 g hr, cell_kept h.c1 g hr, cell_kept h.c2 g hr, cell_kept h.c3 g hr, cell_kept h.c4 g hr,
    (frozen_kept h.c1 g hr).trans h.f1, (frozen_kept h.c2 g hr).trans h.f2, (frozen_kept h.c3 g hr).trans h.f3, (frozen_kept h.c4 g hr).trans h.f4⟩
theorem NuAt.step {z : Nat} {most r n k : Int} {f : Bool} {W : World} (h : NuAt z most r f n k W) (n' k' : Int) : NuAt z most r f n' k' ((W.setCell ⟨z + 3, 0, none⟩ (.int .i64 n')).setCell ⟨z + 4, 0, none⟩ (.int .i64 k')) := by
  have c0 := h.c0
  have c1 := h.c1
  have c2 := h.c2
  have c3 := h.c3
  have c4 := h.c4
  have f1 := h.f1
  have f2 := h.f2
  have f3 := h.f3
  have f4 := h.f4
  exact ⟨by go_simp, by go_simp, by go_simp, by go_simp, by go_simp, by go_simp, by go_simp, by go_simp, by go_simp⟩
theorem NuAt.gives {z : Nat} {most r n k : Int} {f : Bool} {W : World} (h : NuAt z most r f n k W) (r' : Int) (f' : Bool) : NuAt z most r' f' n k ((W.setCell ⟨z + 1, 0, none⟩ (.int .i64 r')).setCell ⟨z + 2, 0, none⟩ (.bool f')) := by
  have c0 := h.c0
  have c1 := h.c1
  have c2 := h.c2
  have c3 := h.c3
  have c4 := h.c4
  have f1 := h.f1
  have f2 := h.f2
  have f3 := h.f3
  have f4 := h.f4
  exact ⟨by go_simp, by go_simp, by go_simp, by go_simp, by go_simp, by go_simp, by go_simp, by go_simp, by go_simp⟩

theorem NuAt.drew {z : Nat} {most r n k : Int} {f : Bool} {W : World} (h : NuAt z most r f n k W) : NuAt z most r f n k W.drew := ⟨h.c0, h.c1, h.c2, h.c3, h.c4, h.f1, h.f2, h.f3, h.f4⟩
theorem NuAt.other {z b : Nat} {most r n k : Int} {f : Bool} {W : World} (h : NuAt z most r f n k W) (hb : b < z) (o : Nat) (v : Value) : NuAt z most r f n k (W.setCell ⟨b, o, none⟩ v) := by
  have f1 := h.f1
  have f2 := h.f2
  have f3 := h.f3
  have f4 := h.f4
  exact ⟨(set_other W v (by omega)).trans h.c0, (set_other W v (by omega)).trans h.c1, (set_other W v (by omega)).trans h.c2, (set_other W v (by omega)).trans h.c3, (set_other W v (by omega)).trans h.c4, by go_simp, by go_simp, by go_simp, by go_simp⟩

/-- All that was there but block b stands as it stood. -/
theorem gr_below {b : Nat} {w W : World} (h : Below w.heap.size w W) : w.grownBy W (some b) := ⟨h.os, h.tape, h.output, h.size, fun i hi _ => h.block i hi⟩
theorem gr_grown {b : Nat} {w W W' : World} {row : Option Nat} (h : w.grownBy W (some b)) (g : W.grownBy W' row) (hr : ∀ r, row = some r → w.heap.size ≤ r) : w.grownBy W' (some b) :=
  ⟨g.os.trans h.os, g.tape.trans h.tape, g.output.trans h.output, Nat.le_trans h.size g.size, fun i hi hne => (g.block i (Nat.lt_of_lt_of_le hi h.size) (fun e => by have := hr i e.symm; omega)).trans (h.block i hi hne)⟩
theorem gr_set {b c o : Nat} {w W : World} (h : w.grownBy W (some b)) (hc : c = b ∨ w.heap.size ≤ c) (v : Value) : w.grownBy (W.setCell ⟨c, o, none⟩ v) (some b) :=
  ⟨h.os, h.tape, h.output, Nat.le_trans h.size (Nat.le_of_eq (by simp)), fun i hi hne => (Below.heap_setCell W ⟨c, o, none⟩ v i (by
    rcases hc with rfl | hc
    · intro e; exact hne (by rw [e])
    · intro e; simp at e; omega)).trans (h.block i hi hne)⟩
theorem gr_drew {b : Nat} {w W : World} (h : w.grownBy W (some b)) : w.grownBy W.drew (some b) := ⟨h.os, h.tape, h.output, h.size, h.block⟩

set_option maxRecDepth 100000 in
set_option maxHeartbeats 4000000 in
theorem number_in (b : Nat) (s : ByteArray) (hsz : s.size ≤ 1000) (most : Int) (vs : List Value) (hm : 0 ≤ most ∧ most ≤ 100000) (w : World) (hR : RdL b s vs w) :
    CallsIn Fence.wide 5 Tryz.prog 54 #[.pointer (some ⟨b, 0, none⟩), .int .i64 most] w fun x w' =>
      (runD most (0, 0) (digN 0 s.data.toList) = none ∧ x = .returned (.tuple #[.int .i64 0, .bool false]) ∧ RdL b s vs w' ∧ w.grownBy w' (some b)) ∨
      (∃ n k, runD most (0, 0) (digN 0 s.data.toList) = some (n, k) ∧ x = .returned (.tuple #[.int .i64 n, .bool (decide (0 < k))]) ∧ RdL b (s.extract k.toNat s.size) vs w' ∧ w.grownBy w' (some b)) := by
  have hb := blt hR.c0
  have c0 := hR.c0
  have HR := Lib.hid hR
  have h59 : Fence.wide.fn 69 := trivial
  have H59 := Lib.hid (fun W => digits_c s W)
  have HT := Lib.hid (fun Bs W h => digits_stops Fence.wide 4 trivial rfl (by omega) Bs s hsz W h)
  clear hR
  have cU : (((((w.alloc (.cells #[.int .i64 most] 3)).alloc (.cells #[.int .i64 0] 3)).alloc (.cells #[.bool false] 4)).alloc (.cells #[.int .i64 0] 3)).alloc (.cells #[.int .i64 0] 3)).cell? ⟨b, 0, none⟩ = some (.string s) := keep_alloc _ (keep_alloc _ (keep_alloc _ (keep_alloc _ (keep_alloc _ c0))))
  have bU : Below w.heap.size w (((((w.alloc (.cells #[.int .i64 most] 3)).alloc (.cells #[.int .i64 0] 3)).alloc (.cells #[.bool false] 4)).alloc (.cells #[.int .i64 0] 3)).alloc (.cells #[.int .i64 0] 3)) := bal (bal (bal (bal (below_alloc _ _) _) _) _) _
  have bV : Below w.heap.size w ((((((w.alloc (.cells #[.int .i64 most] 3)).alloc (.cells #[.int .i64 0] 3)).alloc (.cells #[.bool false] 4)).alloc (.cells #[.int .i64 0] 3)).alloc (.cells #[.int .i64 0] 3)).alloc (.cells #[.string s] 9)) := bal bU _
  have hNu : NuAt w.heap.size most 0 false 0 0 ((((((w.alloc (.cells #[.int .i64 most] 3)).alloc (.cells #[.int .i64 0] 3)).alloc (.cells #[.bool false] 4)).alloc (.cells #[.int .i64 0] 3)).alloc (.cells #[.int .i64 0] 3)).alloc (.cells #[.string s] 9)) := ⟨by go_simp, by go_simp, by go_simp, by go_simp, by go_simp, by go_simp, by go_simp, by go_simp, by go_simp⟩
  have cV : ((((((w.alloc (.cells #[.int .i64 most] 3)).alloc (.cells #[.int .i64 0] 3)).alloc (.cells #[.bool false] 4)).alloc (.cells #[.int .i64 0] 3)).alloc (.cells #[.int .i64 0] 3)).alloc (.cells #[.string s] 9)).cell? ⟨w.heap.size + 5, 0, none⟩ = some (.string s) := by go_simp
  have zV : ((((((w.alloc (.cells #[.int .i64 most] 3)).alloc (.cells #[.int .i64 0] 3)).alloc (.cells #[.bool false] 4)).alloc (.cells #[.int .i64 0] 3)).alloc (.cells #[.int .i64 0] 3)).alloc (.cells #[.string s] 9)).heap.size = w.heap.size + 6 := by simp
  refine callsIn_of_wp_marks Tryz.func54 rfl trivial ?_ rfl
  simp only [Tryz.ntmps54, List.size_toArray, List.length_cons, List.length_nil, Nat.reduceAdd, Nat.reduceSub, Array.replicate_succ, Array.replicate_zero, List.push_toArray, List.append_toArray, List.nil_append, List.cons_append]
  gi_wp2_with (gi_at_call 69; refine (callsIn_wide.2 (H59.out _)).mono ?_; rintro e w' ⟨rfl, rfl⟩)
  rename_i K hK
  have hRV := HR.out.on bV
  have bV' : w.grownBy ((((((w.alloc (Obj.cells #[Value.int .i64 most] 3)).alloc (Obj.cells #[Value.int .i64 0] 3)).alloc (Obj.cells #[Value.bool false] 4)).alloc (Obj.cells #[Value.int .i64 0] 3)).alloc (Obj.cells #[Value.int .i64 0] 3)).alloc (Obj.cells #[Value.string s] 9)) (some b) := gr_below bV
  clear cU bU bV c0 HR
  generalize hzz : w.heap.size = z at *
  generalize ((((((w.alloc (Obj.cells #[Value.int .i64 most] 3)).alloc (Obj.cells #[Value.int .i64 0] 3)).alloc (Obj.cells #[Value.bool false] 4)).alloc (Obj.cells #[Value.int .i64 0] 3)).alloc (Obj.cells #[Value.int .i64 0] 3)).alloc (Obj.cells #[Value.string s] 9)) = V at *
  refine wpIn_rangeFunc_ownG rfl (by omega) (gf := 82) (lb := #[.pointer (some ⟨z + 1 + 1 + 1 + 1 + 1, 0, none⟩)]) rfl trivial (enters_of Tryz.func82 (by kernel_rfl) rfl)
    (HT.out _ V cV) (fun h k => h.trans k) (fun W l o o' _ hl _ hw => ⟨by simp [World.putObj], fun i q hi hq => by
      by_cases e : i = l
      · subst e; rw [hl] at hi; cases hi; rw [hw] at hq; cases hq
      · exact (World.putObj_heap_other e).trans hi⟩) (Below.refl _ _) (fun _ => rfl)
    (fun D W => ∃ n k, runD most (0, 0) D = some (n, k) ∧ NuAt z most 0 false n k W ∧ RdL b s vs W ∧ w.grownBy W (some b))
    (fun c D W => c = .ret ∧ runD most (0, 0) D = none ∧ (∃ n k, NuAt z most 0 false n k W) ∧ RdL b s vs W ∧ w.grownBy W (some b))
    (fun D W W' row ⟨n, k, h1, h2, h3, h4⟩ hg hr => ⟨n, k, h1, h2.kept hg (fun r e => (hr r e).2), h3.kept hg (fun r e => (hr r e).2), gr_grown h4 hg (fun j hj => by have := (hr j hj).1; omega)⟩)
    (fun c D W W' row ⟨h0, h1, ⟨n, k, h2⟩, h3, h4⟩ hg hr => ⟨h0, h1, ⟨n, k, h2.kept hg (fun r e => (hr r e).2)⟩, h3.kept hg (fun r e => (hr r e).2), gr_grown h4 hg (fun j hj => by have := (hr j hj).1; omega)⟩)
    ⟨0, 0, rfl, hNu, hRV, bV'⟩
    (fun x => { tmps := #[.pointer (some ⟨b, 0, none⟩), .int .i64 most, undef, .pointer (some ⟨z, 0, none⟩), .pointer (some ⟨z + 1, 0, none⟩), .pointer (some ⟨z + 1 + 1, 0, none⟩), .pointer (some ⟨z + 1 + 1 + 1, 0, none⟩), .pointer (some ⟨z + 1 + 1 + 1 + 1, 0, none⟩), .int .i64 (x.p : Int), .int .i64 (x.d : Int), .pointer (some ⟨b, 0, none⟩), .pointer (some ⟨b, 0, none⟩), .pointer (some ⟨b, 0, none⟩), .string s, .func (.func 82) #[] #[.pointer (some ⟨z + 1 + 1 + 1 + 1 + 1, 0, none⟩)], .int .i64 (x.p : Int), .int .i64 (x.d : Int), undef, undef, undef, undef, undef, undef, undef, undef, undef, undef, undef, undef, undef, undef, undef, undef, undef, undef, undef, undef, undef, undef, undef, undef, undef, undef, undef, undef, undef, undef, undef, undef], defers := [] }) ?assign ?body ?done ?stop
  case assign =>
    intro l' x W K' hK'
    simp only [encD]
    gi_wp2
    exact hK'
  case body =>
    rintro l' pre x W ⟨n, k, h1, h2, h3, h4⟩ hlt
    have hbd := runD_bound (most := most) (D := pre) (st := (0, 0)) (st' := (n, k)) ⟨by simp, by simp; omega, by simp, by simp⟩ h1
    simp only at hbd
    have hxp := x.hp
    have hxd := x.hd
    have g0 := h2.c0
    have g1 := h2.c1
    have g2 := h2.c2
    have g3 := h2.c3
    have g4 := h2.c4
    have y1 := h2.f1
    have y2 := h2.f2
    have y3 := h2.f3
    have y4 := h2.f4
    have H2 := Lib.hid h2
    have H3 := Lib.hid h3
    have H4 := Lib.hid h4
    have hzb : b < z := by omega
    clear h2 h3 h4 hNu hRV bV' HT H59 hK cV hlt
    obtain ⟨P, hxp'⟩ : ∃ P : Int, (x.p : Int) = P := ⟨_, rfl⟩
    obtain ⟨dd, hxd'⟩ : ∃ d : Int, (x.d : Int) = d := ⟨_, rfl⟩
    have hP : 0 ≤ P ∧ P ≤ 1000 := by omega
    have hdd : 0 ≤ dd ∧ dd ≤ 9 := by omega
    rw [hxp', hxd']
    by_cases hp1 : P = 1
    · by_cases hn0 : n = 0
      · subst hp1 hn0
        have hnone : runD most (0, 0) (pre ++ [x]) = none := by rw [runD_snoc, h1]; rw [Option.bind_some]; exact step_none (by omega)
        have HE := Lib.hid hnone
        clear hnone h1 hxp hxd
        gi_wp2
        exact ⟨((KeepsOthers.setCell _ _ _).trans (KeepsOthers.setCell _ _ _)).from _, rfl, HE.out, ⟨_, k, H2.out.gives 0 false⟩, (H3.out.other (b2 := z + 1) (by omega) 0 _).other (b2 := z + 2) (by omega) 0 _, gr_set (c := z + 2) (gr_set (c := z + 1) H4.out (.inr (by omega)) _) (.inr (by omega)) _⟩
      · have hd0 : (n == 0) = false := by simpa using hn0
        by_cases hgt : most - 10 * n < dd
        · subst hp1
          have hnone : runD most (0, 0) (pre ++ [x]) = none := by rw [runD_snoc, h1]; rw [Option.bind_some]; exact step_none (by omega)
          have HE := Lib.hid hnone
          clear hnone h1 hxp hxd
          gi_wp2
          exact ⟨((KeepsOthers.setCell _ _ _).trans (KeepsOthers.setCell _ _ _)).from _, rfl, HE.out, ⟨_, k, H2.out.gives 0 false⟩, (H3.out.other (b2 := z + 1) (by omega) 0 _).other (b2 := z + 2) (by omega) 0 _, gr_set (c := z + 2) (gr_set (c := z + 1) H4.out (.inr (by omega)) _) (.inr (by omega)) _⟩
        · have hle : dd ≤ most - 10 * n := by omega
          subst hp1
          have hsome : runD most (0, 0) (pre ++ [x]) = some (10 * n + x.d, (x.p : Int) + 1) := by rw [runD_snoc, h1]; rw [Option.bind_some]; exact step_some (by omega) (by omega)
          rw [hxd', hxp'] at hsome
          have HE := Lib.hid hsome
          clear hsome h1 hxp hxd
          gi_wp2
          exact ⟨((KeepsOthers.setCell _ _ _).trans (KeepsOthers.setCell _ _ _)).from _, (KeepsWalks.setCell _ _ _).trans (KeepsWalks.setCell _ _ _), _, _, HE.out, H2.out.step _ _, (H3.out.other (by omega) 0 _).other (by omega) 0 _, gr_set (c := z + 4) (gr_set (c := z + 3) H4.out (.inr (by omega)) _) (.inr (by omega)) _⟩
    · have hd1 : (P == 1) = false := by simpa using hp1
      by_cases hgt : most - 10 * n < dd
      · have hnone : runD most (0, 0) (pre ++ [x]) = none := by rw [runD_snoc, h1]; rw [Option.bind_some]; exact step_none (by omega)
        have HE := Lib.hid hnone
        clear hnone h1 hxp hxd
        gi_wp2
        exact ⟨((KeepsOthers.setCell _ _ _).trans (KeepsOthers.setCell _ _ _)).from _, rfl, HE.out, ⟨_, k, H2.out.gives 0 false⟩, (H3.out.other (b2 := z + 1) (by omega) 0 _).other (b2 := z + 2) (by omega) 0 _, gr_set (c := z + 2) (gr_set (c := z + 1) H4.out (.inr (by omega)) _) (.inr (by omega)) _⟩
      · have hle : dd ≤ most - 10 * n := by omega
        have hsome : runD most (0, 0) (pre ++ [x]) = some (10 * n + x.d, (x.p : Int) + 1) := by rw [runD_snoc, h1]; rw [Option.bind_some]; exact step_some (by omega) (by omega)
        rw [hxd', hxp'] at hsome
        have HE := Lib.hid hsome
        clear hsome h1 hxp hxd
        gi_wp2
        exact ⟨((KeepsOthers.setCell _ _ _).trans (KeepsOthers.setCell _ _ _)).from _, (KeepsWalks.setCell _ _ _).trans (KeepsWalks.setCell _ _ _), _, _, HE.out, H2.out.step _ _, (H3.out.other (by omega) 0 _).other (by omega) 0 _, gr_set (c := z + 4) (gr_set (c := z + 3) H4.out (.inr (by omega)) _) (.inr (by omega)) _⟩
  case done =>
    rintro D xs W hD rfl ⟨n, k, h1, h2, h3, h4⟩ hdef
    have hbd := runD_bound (most := most) (D := digN 0 s.data.toList) (st := (0, 0)) (st' := (n, k)) ⟨by simp, by simp; omega, by simp, by simp⟩ h1
    simp only at hbd
    have hkk := runD_size (i := 0) h1
    have hkl := digN_len 0 s.data.toList
    have hsl : s.data.toList.length = s.size := rfl
    refine hK _ _ ?_
    obtain ⟨kn, rfl⟩ : ∃ kn : Nat, k = kn := ⟨k.toNat, by omega⟩
    have hkn : kn ≤ s.size := by omega
    have g0 := h2.c0
    have g1 := h2.c1
    have g2 := h2.c2
    have g3 := h2.c3
    have g4 := h2.c4
    have y1 := h2.f1
    have y2 := h2.f2
    have y3 := h2.f3
    have y4 := h2.f4
    have r0 := h3.c0
    have q0 := h3.f0
    have H1 := Lib.hid h1
    have H2 := Lib.hid h2
    have H3 := Lib.hid h3
    have H4 := Lib.hid h4
    have HD := Lib.hid hdef
    have hbz : b ≠ z + 1 ∧ b ≠ z + 2 ∧ b ≠ z + 3 ∧ b ≠ z + 4 := by omega
    clear h1 h2 h3 h4 hNu hRV bV' HT H59 hK cV hkk hkl hdef
    gi_wp2_with fail
    gi_region
    gi_wp2_with fail
    gi_region
    all_goals gi_wp2
    have hDz : z + 6 ≤ D := by omega
    have hd' : ((((W.setCell ⟨b, 0, none⟩ (.string (s.extract kn s.size))).setCell ⟨z + 1, 0, none⟩ (.int .i64 n)).setCell ⟨z + 1 + 1, 0, none⟩ (.bool (decide (0 < kn)))).drew.drew).heap[D]? = some (.deferred (some [])) :=
      (Below.heap_setCell _ ⟨z + 1 + 1, 0, none⟩ _ D (by simp; omega)).trans ((Below.heap_setCell _ ⟨z + 1, 0, none⟩ _ D (by simp; omega)).trans ((Below.heap_setCell _ ⟨b, 0, none⟩ _ D (by simp; omega)).trans HD.out))
    refine ⟨by simp, .inl ⟨_, _, rfl, run_takeDeferred hd', ?_⟩⟩
    have gP := grownBy_putObj' ((((W.setCell ⟨b, 0, none⟩ (.string (s.extract kn s.size))).setCell ⟨z + 1, 0, none⟩ (.int .i64 n)).setCell ⟨z + 1 + 1, 0, none⟩ (.bool (decide (0 < kn)))).drew.drew) D (Obj.deferred none)
    have hP : ∀ r, some D = some r → ∃ o : Obj, ((((W.setCell ⟨b, 0, none⟩ (.string (s.extract kn s.size))).setCell ⟨z + 1, 0, none⟩ (.int .i64 n)).setCell ⟨z + 1 + 1, 0, none⟩ (.bool (decide (0 < kn)))).drew.drew).heap[r]? = some o ∧ o.isCells = false := fun r e => by cases e; exact ⟨_, hd', rfl⟩
    have N1 : NuAt z most n (decide (0 < kn)) n kn ((((W.setCell ⟨b, 0, none⟩ (.string (s.extract kn s.size))).setCell ⟨z + 1, 0, none⟩ (.int .i64 n)).setCell ⟨z + 1 + 1, 0, none⟩ (.bool (decide (0 < kn)))).drew.drew) :=
      ((H2.out.other hb 0 _).gives n (decide (0 < kn))).drew.drew
    have R1 : RdL b (s.extract kn s.size) vs ((((W.setCell ⟨b, 0, none⟩ (.string (s.extract kn s.size))).setCell ⟨z + 1, 0, none⟩ (.int .i64 n)).setCell ⟨z + 1 + 1, 0, none⟩ (.bool (decide (0 < kn)))).drew.drew) :=
      (((H3.out.set0 _).other (b2 := z + 1) (by omega) 0 _).other (b2 := z + 1 + 1) (by omega) 0 _).drew.drew
    have B1 : w.grownBy ((((W.setCell ⟨b, 0, none⟩ (.string (s.extract kn s.size))).setCell ⟨z + 1, 0, none⟩ (.int .i64 n)).setCell ⟨z + 1 + 1, 0, none⟩ (.bool (decide (0 < kn)))).drew.drew) (some b) :=
      gr_drew (gr_drew (gr_set (c := z + 1 + 1) (gr_set (c := z + 1) (gr_set (c := b) H4.out (.inl rfl) _) (.inr (by omega)) _) (.inr (by omega)) _))
    have N2 := N1.kept gP hP
    have e1 := N2.c1
    have e2 := N2.c2
    refine ⟨.tuple #[.int .i64 n, .bool (decide (0 < kn))], by simp [results, Tryz.results54, go_sem, e1, e2], .inr ⟨n, kn, H1.out, ?_, ?_, ?_⟩⟩
    · simp
    · rw [Int.toNat_natCast]; exact R1.kept gP hP
    · exact gr_grown B1 gP (fun j hj => by cases hj; omega)
  case stop =>
    rintro D c pre W hD ⟨r, hpre⟩ ⟨rfl, h1, ⟨n, k, h2⟩, h3, h4⟩ hdef
    have hnone := runD_none most (0, 0) pre r h1
    rw [hpre] at hnone
    have g1 := h2.c1
    have g2 := h2.c2
    gi_wp2
    refine ⟨by simp, .inl ⟨_, _, rfl, run_takeDeferred hdef, ?_⟩⟩
    have gP := grownBy_putObj' W D (Obj.deferred none)
    have hP : ∀ r, some D = some r → ∃ o : Obj, W.heap[r]? = some o ∧ o.isCells = false := fun r e => by cases e; exact ⟨_, hdef, rfl⟩
    have N2 := h2.kept gP hP
    have e1 := N2.c1
    have e2 := N2.c2
    exact ⟨.tuple #[.int .i64 0, .bool false], by simp [results, Tryz.results54, go_sem, e1, e2], .inl ⟨hnone, rfl, h3.kept gP hP, gr_grown h4 gP (fun j hj => by cases hj; omega)⟩⟩
end Go.Proofs.YtlnjalhlbfbjcaaGreatDoor

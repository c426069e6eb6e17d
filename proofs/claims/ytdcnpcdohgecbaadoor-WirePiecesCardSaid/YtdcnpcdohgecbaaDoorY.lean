/- All: plain facts, its contract. -/
import Derived.Test.YtdcnpcdohgecbaaDoorW
import Derived.Test.YtdcnpcdohgecbaaDoorHr
import Derived.Deep.AppendLies
namespace Go.Proofs.YtdcnpcdohgecbaaDoor
open Go.RowKit Go.Shelf
attribute [local go_sem] Oper.semAt_some

theorem framesF_c (s : ByteArray) (w : World) : Calls Tryd.prog 31 #[.string s] w fun x w' => x = .returned (.func (.func 51) #[] #[.pointer (some ⟨w.heap.size, 0, none⟩)]) ∧ w' = w.alloc (.cells #[.string s] 9) := by
  go_enter Tryd.func31, Tryd.ntmps31
  go_wp2
  go_ret
  exact ⟨rfl, rfl⟩
theorem Chain.uniq {s : ByteArray} {pre : List Int} {a b : Int} (h : Chain s pre a) (k : Chain s pre b) : a = b := by
  cases h with
  | nil =>
    generalize hx : ([] : List Int) = x at k
    cases k with
    | nil => rfl
    | snoc _ _ => simp at hx
  | snoc h1 h2 =>
    rename_i p c
    generalize hx : p ++ [c] = x at k
    cases k with
    | nil => simp at hx
    | snoc k1 k2 =>
      obtain ⟨-, rfl⟩ := List.append_inj' hx rfl |>.imp id (fun e => by simpa using e)
      rfl
/-- The cells of the frames that were taken. -/
def frCells (s : ByteArray) : List Int → List Value
  | [] => []
  | a :: l => .int .i64 (tkK s a) :: .int .i64 (tkS s a) :: .string (tkD s a) :: frCells s l
theorem frCells_append (s : ByteArray) (l m : List Int) : frCells s (l ++ m) = frCells s l ++ frCells s m := by
  induction l with
  | nil => rfl
  | cons a l ih => simp [frCells, ih]
theorem frCells_length (s : ByteArray) (l : List Int) : (frCells s l).length = l.length * 3 := by
  induction l with
  | nil => rfl
  | cons a l ih => simp [frCells, ih]; omega
/-- What the loop of All keeps. -/
def AllI (s : ByteArray) (z : Nat) (w : World) (pre : List Int) (Pv : Nat → Prop) (W : World) : Prop :=
  ∃ (a : Int) (v : Value), Chain s pre a ∧ Boxed W z 25 v ∧ W.ownsRow z 23 3 v pre.length (frCells s pre) ∧ Boxed W (z + 1) 3 (.int .i64 a) ∧ Boxed W (z + 2) 28 (.int .i64 0) ∧
    Below z w W ∧ ErrT W ∧ ¬ Pv z ∧ ¬ Pv (z + 1) ∧ ¬ Pv (z + 2) ∧ (∀ g, v.ownBlock = some g → ¬ Pv g) ∧ (∀ i, Pv i → z ≤ i) ∧ (∀ i, Pv i → i < W.heap.size)
def AllX (s : ByteArray) (z : Nat) (w : World) (c : Code) (xs : List Int) (Pv : Nat → Prop) (W : World) : Prop :=
  ∃ (pre : List Int) (a : Int) (v : Value), c = .exit 0 ∧ xs = pre ++ [a] ∧ Chain s pre a ∧ ¬ tkE s a = 0 ∧ Boxed W z 25 v ∧ W.ownsRow z 23 3 v pre.length (frCells s pre) ∧ Boxed W (z + 1) 3 (.int .i64 a) ∧ Boxed W (z + 2) 28 (.int .i64 (if tkE s a = 30 then 0 else tkE s a)) ∧
    Below z w W ∧ ErrT W ∧ ¬ Pv z ∧ ¬ Pv (z + 1) ∧ ¬ Pv (z + 2) ∧ (∀ g, v.ownBlock = some g → ¬ Pv g) ∧ (∀ i, Pv i → z ≤ i) ∧ (∀ i, Pv i → i < W.heap.size)
theorem Goes.boxed {Pv : Nat → Prop} {A B : World} {b : Nat} {t : TypeId} {v : Value} (h : Goes Pv A B) (hb : Boxed A b t v) (hp : ¬ Pv b) : Boxed B b t v := h.obj hb hp
theorem Goes.belowz {Pv : Nat → Prop} {z : Nat} {w A B : World} (h : Goes Pv A B) (hb : Below z w A) (hz : z ≤ A.heap.size) (hp : ∀ i, Pv i → z ≤ i) : Below z w B :=
  ⟨h.os.trans hb.os, h.tape.trans hb.tape, h.output.trans hb.output, Nat.le_trans hb.size h.size, fun i hi => (h.same i (by omega) (fun k => by have := hp i k; omega)).trans (hb.block i hi)⟩
theorem More.not {Pv Pv' : Nat → Prop} {A B : World} (hm : More Pv Pv' A B) {i : Nat} (h : ¬ Pv i) (hi : i < A.heap.size) : ¬ Pv' i := fun k => (hm i k).elim h (fun k => by omega)
theorem own_lt {W : World} {z : Nat} {t : TypeId} {n k : Nat} {v : Value} {xs : List Value} (h : W.ownsRow z t n v k xs) {g : Nat} (hg : v.ownBlock = some g) : g < W.heap.size := by
  rcases h.2 with ⟨rfl, _⟩ | ⟨g', cap, cur, rfl, _, hb, _⟩
  · cases hg
  · cases hg; exact (Array.getElem?_eq_some_iff.1 hb).1
theorem AllI.steady (s : ByteArray) (z : Nat) (hz0 : 0 < z) (w : World) : Steady (AllI s z w) := by
  rintro pre Pv Pv' A B ⟨a, v, hc, b0, ho, b1, b2, hb, he, p0, p1, p2, pg, pz, pt⟩ hg hm
  have hz : z < A.heap.size := b0.lt
  refine ⟨a, v, hc, hg.boxed b0 p0, hg.ownsRow ho pg, hg.boxed b1 p1, hg.boxed b2 p2, hg.belowz hb (by omega) pz, hg.cell he (fun k => by have := pz _ k; omega), hm.not p0 hz, hm.not p1 b1.lt, hm.not p2 b2.lt, fun g h => hm.not (pg g h) (own_lt ho h), fun i h => (hm i h).elim (pz i) (fun k => by omega), fun i h => (hm i h).elim (fun k => by have := pt i k; have := hg.size; omega) (fun k => k.2)⟩
theorem AllX.steady (s : ByteArray) (z : Nat) (hz0 : 0 < z) (w : World) (c : Code) : Steady (AllX s z w c) := by
  rintro xs Pv Pv' A B ⟨pre, a, v, hx, hxs, hc, ht, b0, ho, b1, b2, hb, he, p0, p1, p2, pg, pz, pt⟩ hg hm
  have hz : z < A.heap.size := b0.lt
  exact ⟨pre, a, v, hx, hxs, hc, ht, hg.boxed b0 p0, hg.ownsRow ho pg, hg.boxed b1 p1, hg.boxed b2 p2, hg.belowz hb (by omega) pz, hg.cell he (fun k => by have := pz _ k; omega), hm.not p0 hz, hm.not p1 b1.lt, hm.not p2 b2.lt, fun g h => hm.not (pg g h) (own_lt ho h), fun i h => (hm i h).elim (pz i) (fun k => by omega), fun i h => (hm i h).elim (fun k => by have := pt i k; have := hg.size; omega) (fun k => k.2)⟩
theorem Chain.last {s : ByteArray} {pre : List Int} {a b : Int} (h : Chain s (pre ++ [a]) b) : tkE s a = 0 := by
  generalize hx : pre ++ [a] = x at h
  cases h with
  | nil => simp at hx
  | snoc h1 h2 =>
    obtain ⟨-, e⟩ := List.append_inj' hx rfl
    obtain rfl := List.singleton_inj.1 e
    exact h2
theorem Chain.long {s : ByteArray} {pre : List Int} {a : Int} (h : Chain s pre a) : 5 * (pre.length : Int) ≤ a := by
  induction h with
  | nil => simp
  | snoc h hz ih =>
    obtain ⟨n, L, rfl, hL, hk, _⟩ := tk_facts hz
    unfold tkN
    rw [if_pos hz]
    simp only [Int.toNat_natCast, hL, List.length_append, List.length_singleton]
    omega
theorem own_form {W : World} {z : Nat} {t : TypeId} {n k : Nat} {v : Value} {xs : List Value} (h : W.ownsRow z t n v k xs) : ∃ ao c, v = .slice ao k c := by
  rcases h.2 with ⟨rfl, rfl⟩ | ⟨g', cap, cur, rfl, _⟩
  · exact ⟨_, _, rfl⟩
  · exact ⟨_, _, rfl⟩
theorem infoFrame : (Tryd.prog.info? 23).map (fun i => (i.zero, i.size, i.bytes)) = some (some (.agg #[.int .i64 0, .int .i64 0, .string ⟨#[]⟩]), 3, 32) := by kernel_rfl
/-- What an appended frame leaves. -/
theorem all_next {s : ByteArray} {z : Nat} {w Y w4 : World} {pre : List Int} {a : Int} {Pv : Nat → Prop} {v : Value} {g cap : Nat} {o : Obj} (hz : tkE s a = 0) (hc : Chain s pre a) (b0 : Boxed Y z 25 v) (ho : Y.ownsRow z 23 3 v pre.length (frCells s pre))
    (b1 : Boxed Y (z + 1) 3 (.int .i64 a)) (b2 : Boxed Y (z + 2) 28 (.int .i64 0)) (hb : Below z w Y) (he : ErrT Y) (hz0 : 0 < z) (p0 : ¬ Pv z) (p1 : ¬ Pv (z + 1)) (p2 : ¬ Pv (z + 2)) (pg : ∀ g, v.ownBlock = some g → ¬ Pv g) (pz : ∀ i, Pv i → z ≤ i) (pt : ∀ i, Pv i → i < Y.heap.size)
    (ho4 : w4.ownsRow z 23 3 (.slice (some ⟨g, 0, none⟩) (pre.length + 1) cap) (pre.length + 1) (frCells s pre ++ [.int .i64 (tkK s a), .int .i64 (tkS s a), .string (tkD s a)])) (hg4 : (Y.alloc o).grownBy w4 v.ownBlock) (hgg : v.ownBlock = some g ∨ g = (Y.alloc o).heap.size) :
    Boxed w4 z 25 v ∧ Boxed w4 (z + 1) 3 (.int .i64 a) ∧
    AllI s z w (pre ++ [a]) Pv ((w4.setCell ⟨z, 0, none⟩ (.slice (some ⟨g, 0, none⟩) (pre.length + 1) cap)).setCell ⟨z + 1, 0, none⟩ (.int .i64 (tkN s a))) ∧ Mid Pv Y ((w4.setCell ⟨z, 0, none⟩ (.slice (some ⟨g, 0, none⟩) (pre.length + 1) cap)).setCell ⟨z + 1, 0, none⟩ (.int .i64 (tkN s a))) := by
  have n0 := b0.not_row (by decide) ho
  have n1 := b1.not_row (by decide) ho
  have n2 := b2.not_row (by decide) ho
  have c0 := (b0.alloc o).kept hg4 n0
  have c1 := (b1.alloc o).kept hg4 n1
  have c2 := (b2.alloc o).kept hg4 n2
  have m0 := c0.not_row (by decide) ho4
  have m1 := c1.not_row (by decide) ho4
  have e1 : (pre ++ [a]).length = pre.length + 1 := by simp
  have e2 : frCells s (pre ++ [a]) = frCells s pre ++ [.int .i64 (tkK s a), .int .i64 (tkS s a), .string (tkD s a)] := by rw [frCells_append]; rfl
  have hz8 : z < Y.heap.size := b0.lt
  have hzo : ∀ r, v.ownBlock = some r → z ≤ r := fun r h => by
    rcases ho.2 with ⟨rfl, _⟩ | ⟨g', cap', cur, rfl, h1, _⟩
    · cases h
    · cases h; exact h1
  have hbz : Below z w w4 := (hb.alloc (by omega) o).grown hg4 (by simp; omega) (fun j hj => hzo j hj)
  have hbe := hbz.block
  refine ⟨c0, c1, ⟨tkN s a, .slice (some ⟨g, 0, none⟩) (pre.length + 1) cap, .snoc hc hz, ?_, ?_, ?_, ?_, ?_, ?_, p0, p1, p2, ?_, pz, ?_⟩, ?_⟩
  · exact (c0.set _).kept (grownBy_setCell' _ _ _) (by simp)
  · rw [e1, e2]
    exact (ho4.kept (grownBy_setCell' w4 z _) (.inr m0.symm)).kept (grownBy_setCell' _ (z + 1) _) (.inr m1.symm)
  · exact (c1.kept (grownBy_setCell' w4 z _) (by simp)).set _
  · exact (c2.kept (grownBy_setCell' w4 z _) (by simp)).kept (grownBy_setCell' _ (z + 1) _) (by simp)
  · exact (hbz.setCell (p := ⟨z, 0, none⟩) (Nat.le_refl _) _).setCell (p := ⟨z + 1, 0, none⟩) (by show z ≤ z + 1; omega) _
  · have hx : w4.heap[0]? = Y.heap[0]? := (hbe _ hz0).trans (hb.block _ hz0).symm
    have h4 : ErrT w4 := (World.cell?_of_block (a := ⟨0, 0, none⟩) hx).trans he
    have h5 : ErrT (w4.setCell ⟨z, 0, none⟩ (.slice (some ⟨g, 0, none⟩) (pre.length + 1) cap)) := (set_other w4 _ (b := 0) (bm := z) (o := 0) (om := 0) (by omega)).trans h4
    exact (set_other _ _ (b := 0) (bm := z + 1) (o := 0) (om := 0) (by omega)).trans h5
  · intro g' h'
    obtain rfl : g = g' := by simpa [Value.ownBlock] using h'
    rcases hgg with h | rfl
    · exact pg _ h
    · intro k; have := pt _ k; simp at this; omega
  · intro i h
    have h1 := pt i h
    have h2 := hg4.size
    have h3 := (grownBy_setCell' w4 z (.slice (some ⟨g, 0, none⟩) (pre.length + 1) cap)).size
    have h4 := (grownBy_setCell' (w4.setCell ⟨z, 0, none⟩ (.slice (some ⟨g, 0, none⟩) (pre.length + 1) cap)) (z + 1) (.int .i64 (tkN s a))).size
    simp at h2
    omega
  · exact (((Mid.refl Pv Y).alloc o).trans (Mid.of_grown hg4 pg)).setCell _ p0 |>.setCell _ p1
set_option maxRecDepth 100000 in
set_option maxHeartbeats 4000000 in
theorem all_in (s : ByteArray) (hs : (s.size : Int) ≤ 100000) (w : World) (hE : ErrT w) : CallsIn Fence.wide 8 Tryd.prog 23 #[.string s] w fun x w' => ∃ (pre : List Int) (a : Int) (v : Value), x = .returned (.tuple #[v, .int .i64 a, .int .i64 (if tkE s a = 30 then 0 else tkE s a)]) ∧ Chain s pre a ∧ ¬ tkE s a = 0 ∧ w'.ownsRow w.heap.size 23 3 v pre.length (frCells s pre) ∧ Below w.heap.size w w' := by
  have q1 : Fence.wide.fn 31 := trivial
  have q2 : Fence.wide.fn 32 := trivial
  have q3 : Fence.wide.fn 33 := trivial
  have q4 : Fence.wide.fn 29 := trivial
  have HF := Lib.hid (fun W => framesF_c s W)
  have HEE := Lib.hid hE
  have hz0 := Lib.hid (blt hE)
  clear hE
  refine callsIn_of_wp_marks Tryd.func23 rfl trivial ?_ rfl
  simp only [Tryd.ntmps23, List.size_toArray, List.length_cons, List.length_nil, Nat.reduceAdd, Nat.reduceSub, Array.replicate_succ, Array.replicate_zero, List.push_toArray, List.append_toArray, List.nil_append, List.cons_append]
  gi_wp2
  refine wpIn_scope_straight ?_
  gi_wp2_with fail
  refine wpIn_label ?_
  gi_wp2_with (gi_at_call 31; refine (callsIn_wide.2 (HF.out _)).mono ?_; rintro e w' ⟨rfl, rfl⟩)
  rename_i K hK
  have HK := Lib.hid hK
  clear hK HF
  have hB : Below w.heap.size w ((((w.alloc (.cells #[.slice none 0 0] 25)).alloc (.cells #[.int .i64 0] 3)).alloc (.cells #[.int .i64 0] 28)).alloc (.cells #[.string s] 9)) := bal (bal (bal (below_alloc w _) _) _) _
  have x0 : Boxed ((((w.alloc (.cells #[.slice none 0 0] 25)).alloc (.cells #[.int .i64 0] 3)).alloc (.cells #[.int .i64 0] 28)).alloc (.cells #[.string s] 9)) w.heap.size 25 (.slice none 0 0) := (((Boxed.new w _ _).alloc _).alloc _).alloc _
  have x1 : Boxed ((((w.alloc (.cells #[.slice none 0 0] 25)).alloc (.cells #[.int .i64 0] 3)).alloc (.cells #[.int .i64 0] 28)).alloc (.cells #[.string s] 9)) (w.heap.size + 1) 3 (.int .i64 0) := by
    have := Boxed.new (w.alloc (.cells #[.slice none 0 0] 25)) 3 (.int .i64 0)
    rw [World.size_alloc] at this
    exact (this.alloc _).alloc _
  have x2 : Boxed ((((w.alloc (.cells #[.slice none 0 0] 25)).alloc (.cells #[.int .i64 0] 3)).alloc (.cells #[.int .i64 0] 28)).alloc (.cells #[.string s] 9)) (w.heap.size + 2) 28 (.int .i64 0) := by
    have := Boxed.new ((w.alloc (.cells #[.slice none 0 0] 25)).alloc (.cells #[.int .i64 0] 3)) 28 (.int .i64 0)
    rw [World.size_alloc, World.size_alloc] at this
    exact this.alloc _
  have x3 : ((((w.alloc (.cells #[.slice none 0 0] 25)).alloc (.cells #[.int .i64 0] 3)).alloc (.cells #[.int .i64 0] 28)).alloc (.cells #[.string s] 9)).cell? ⟨w.heap.size + 3, 0, none⟩ = some (.string s) := by
    have := (Boxed.new (((w.alloc (.cells #[.slice none 0 0] 25)).alloc (.cells #[.int .i64 0] 3)).alloc (.cells #[.int .i64 0] 28)) 9 (.string s)).cell
    rw [World.size_alloc, World.size_alloc, World.size_alloc] at this
    exact this
  have hI : AllI s w.heap.size w [] (fun i => i = w.heap.size + 3) ((((w.alloc (.cells #[.slice none 0 0] 25)).alloc (.cells #[.int .i64 0] 3)).alloc (.cells #[.int .i64 0] 28)).alloc (.cells #[.string s] 9)) :=
    ⟨0, _, .nil, x0, World.ownsRow_nil _ _ _ _, x1, x2, hB, HEE.out.on hB, by omega, by omega, by omega, (fun g h => by cases h), (fun i h => by omega), (fun i h => by rw [h]; exact blt x3)⟩
  generalize ((((w.alloc (.cells #[.slice none 0 0] 25)).alloc (.cells #[.int .i64 0] 3)).alloc (.cells #[.int .i64 0] 28)).alloc (.cells #[.string s] 9)) = V at *
  have hVz : w.heap.size + 3 < V.heap.size := blt x3
  have HFI := Lib.hid (frames_it 7 (by omega) s (by omega) (w.heap.size + 3) V x3)
  clear x0 x1 x2 x3 hB
  refine wpIn_range_iters (n := 8) (encs := fun a => #[takV s a]) (ps := #[11]) rfl (by omega) (gf := 51) (lb := #[.pointer (some ⟨w.heap.size + 3, 0, none⟩)]) rfl trivial (enters_of Tryd.func51 (by kernel_rfl) rfl)
    HFI.out (Below.refl _ _) (fun _ => rfl) (fun i h => by omega) (AllI s w.heap.size w) (AllX s w.heap.size w) (AllI.steady s _ hz0.out w) (AllX.steady s _ hz0.out w) hI ?round ?done ?stop
  case round =>
    clear HFI hI HK hVz
    rintro l pre a Pv W hc ⟨a', v, hc', b0, ho, b1, b2, hb, he, p0, p1, p2, pg, pz, pt⟩ hPl hl ⟨rec, hrec⟩
    obtain rfl := hc.uniq hc'
    have hll : l < W.heap.size := (Array.getElem?_eq_some_iff.1 hrec).1
    obtain ⟨ao, cp, rfl⟩ := own_form ho
    have hlong := Lib.hid hc.long
    have hrng := Lib.hid hc.range
    have HO := Lib.hid (fun W => of_c W 30 rfl)
    have hs2 := Lib.hid hs
    clear hs
    by_cases hz : tkE s a = 0
    · have hval : takV s a = .agg #[.int .i64 (tkK s a), .int .i64 (tkS s a), .string (tkD s a), .int .i64 (tkN s a), .nilIface] := by unfold takV tkX; rw [hz]; rfl
      have hK1 : tkK s a ≠ 0 := by obtain ⟨n, L, rfl, _, _, _, h1, _⟩ := tk_facts hz; unfold tkK; rw [if_pos hz]; simp only [Int.toNat_natCast]; omega
      have HIN := Lib.hid (fun W => is_nil 30 W)
      simp only [hval]
      gi_wp2
      refine ⟨(Mid.refl Pv W).alloc _, fun W2 hG hr2 => ?_⟩
      have x0 : W2.cell? ⟨W.heap.size, 0, none⟩ = some (.int .i64 (tkK s a)) := hG.cell (show (W.alloc (.cells #[(.int .i64 (tkK s a)), (.int .i64 (tkS s a)), (.string (tkD s a)), (.int .i64 (tkN s a)), .nilIface] 52)).cell? ⟨W.heap.size, 0, none⟩ = some (.int .i64 (tkK s a)) by go_simp) (by omega)
      have x1 : W2.cell? ⟨W.heap.size, 1, none⟩ = some (.int .i64 (tkS s a)) := hG.cell (show (W.alloc (.cells #[(.int .i64 (tkK s a)), (.int .i64 (tkS s a)), (.string (tkD s a)), (.int .i64 (tkN s a)), .nilIface] 52)).cell? ⟨W.heap.size, 1, none⟩ = some (.int .i64 (tkS s a)) by go_simp) (by omega)
      have x2 : W2.cell? ⟨W.heap.size, 2, none⟩ = some (.string (tkD s a)) := hG.cell (show (W.alloc (.cells #[(.int .i64 (tkK s a)), (.int .i64 (tkS s a)), (.string (tkD s a)), (.int .i64 (tkN s a)), .nilIface] 52)).cell? ⟨W.heap.size, 2, none⟩ = some (.string (tkD s a)) by go_simp) (by omega)
      have x3 : W2.cell? ⟨W.heap.size, 3, none⟩ = some (.int .i64 (tkN s a)) := hG.cell (show (W.alloc (.cells #[(.int .i64 (tkK s a)), (.int .i64 (tkS s a)), (.string (tkD s a)), (.int .i64 (tkN s a)), .nilIface] 52)).cell? ⟨W.heap.size, 3, none⟩ = some (.int .i64 (tkN s a)) by go_simp) (by omega)
      have x4 : W2.cell? ⟨W.heap.size, 4, none⟩ = some .nilIface := hG.cell (show (W.alloc (.cells #[(.int .i64 (tkK s a)), (.int .i64 (tkS s a)), (.string (tkD s a)), (.int .i64 (tkN s a)), .nilIface] 52)).cell? ⟨W.heap.size, 4, none⟩ = some .nilIface by go_simp) (by omega)
      have y0 := hG.boxed (b0.alloc (.cells #[(.int .i64 (tkK s a)), (.int .i64 (tkS s a)), (.string (tkD s a)), (.int .i64 (tkN s a)), .nilIface] 52)) (fun h => p0 (h ▸ hPl))
      have y1 := hG.boxed (b1.alloc (.cells #[(.int .i64 (tkK s a)), (.int .i64 (tkS s a)), (.string (tkD s a)), (.int .i64 (tkN s a)), .nilIface] 52)) (fun h => p1 (h ▸ hPl))
      have y2 := hG.boxed (b2.alloc (.cells #[(.int .i64 (tkK s a)), (.int .i64 (tkS s a)), (.string (tkD s a)), (.int .i64 (tkN s a)), .nilIface] 52)) (fun h => p2 (h ▸ hPl))
      have yo := hG.ownsRow (ho.alloc (.cells #[(.int .i64 (tkK s a)), (.int .i64 (tkS s a)), (.string (tkD s a)), (.int .i64 (tkN s a)), .nilIface] 52)) (fun b h k => pg b h (k ▸ hPl))
      have yb : Below w.heap.size w W2 := hG.belowz (hb.alloc (Nat.le_of_lt b0.lt) (.cells #[(.int .i64 (tkK s a)), (.int .i64 (tkS s a)), (.string (tkD s a)), (.int .i64 (tkN s a)), .nilIface] 52)) (by have := b0.lt; simp; omega) (fun i h => by rw [h]; exact pz _ hPl)
      have ye : ErrT W2 := hG.cell (keep_alloc (.cells #[(.int .i64 (tkK s a)), (.int .i64 (tkS s a)), (.string (tkD s a)), (.int .i64 (tkN s a)), .nilIface] 52) he) (fun h => by have := pz _ hPl; have := hz0.out; omega)
      have yt : ∀ i, Pv i → i < W2.heap.size := fun i h => by have h1 := pt i h; have h2 := hG.size; simp at h2; omega
      have hb8 : w.heap.size < W.heap.size := b0.lt
      have hn81 : w.heap.size + 1 ≠ W.heap.size := Nat.ne_of_lt b1.lt
      have hn82 : w.heap.size + 2 ≠ W.heap.size := Nat.ne_of_lt b2.lt
      have hn8 : ∀ g, (Value.slice ao pre.length cp).ownBlock = some g → g ≠ W.heap.size := fun g h => Nat.ne_of_lt (own_lt ho h)
      have u0 := y0.cell
      have u1 := y1.cell
      have u2 := y2.cell
      have f0 := y0.frozen
      have f1 := y1.frozen
      have f2 := y2.frozen
      have HQ := Lib.hid (And.intro y0 (And.intro yo (And.intro y1 (And.intro y2 (And.intro yb (And.intro ye (And.intro yt (And.intro hc (And.intro hz (And.intro p0 (And.intro p1 (And.intro p2 (And.intro pg pz)))))))))))))
      clear y0 y1 y2 yo yb ye yt b0 b1 b2 ho hb he pt p0 p1 p2 pg pz hc' hG hr2 hrec hll hc hPl hl HEE
      generalize W.heap.size = b8 at *
      gi_wp2
      refine wpIn_region_held_drew (S := fun w' => w' = W2.drew) (by kernel_rfl) (by kernel_rfl) (by rintro ⟨_, _, h⟩; exact h) rfl (fun hHeld => ?_)
      refine takeH (i := 0) (some 13) (v := ?_) rfl rfl (by kernel_rfl) (by kernel_rfl) (by kernel_rfl) (fun _ _ _ h => h) (Or.inl ⟨by rfl, ?hya0⟩) hHeld ?resta0
      case hya0 => (intro w hSw; subst hSw; go_simp; (try with_reducible rfl))
      try simp only [Act.put, List.setIfInBounds_toArray, List.set_cons_zero, List.set_cons_succ]
      refine takeH (i := 1) (some 14) (v := ?_) rfl rfl (by kernel_rfl) (by kernel_rfl) (by kernel_rfl) (fun _ _ _ h => h) (Or.inl ⟨by rfl, ?hya1⟩) hHeld ?resta1
      case hya1 => (intro w hSw; subst hSw; go_simp; (try with_reducible rfl))
      try simp only [Act.put, List.setIfInBounds_toArray, List.set_cons_zero, List.set_cons_succ]
      refine wpAnyH_ready (rs := [2]) (by kernel_rfl) (by simp) ?_
      refine AllReadyH.cons rfl (fun K hK => ?_) AllReadyH.nil
      go_simp
      go_at_call 33; (with_reducible refine (HO.out _).mono ?_); rintro e wn ⟨rfl, rfl⟩; clear hHeld
      refine hK.out _ _ rfl (fun hHeld => ?_)
      clear hK K
      try simp only [Act.put, List.setIfInBounds_toArray, List.set_cons_zero, List.set_cons_succ]
      refine wpAnyH_ready (rs := [3]) (by kernel_rfl) (by simp) ?_
      refine AllReadyH.cons rfl (fun K hK => ?_) AllReadyH.nil
      go_simp
      go_at_call 32; (with_reducible refine (HIN.out _).mono ?_); rintro e wn ⟨rfl, rfl⟩; clear hHeld
      refine hK.out _ _ rfl (fun hHeld => ?_)
      clear hK K
      try simp only [Act.put, List.setIfInBounds_toArray, List.set_cons_zero, List.set_cons_succ]
      refine takeH (i := 4) (some 12) (v := ?_) rfl rfl (by kernel_rfl) (by kernel_rfl) (by kernel_rfl) (fun _ _ _ h => h) (Or.inl ⟨by rfl, ?hya4⟩) hHeld ?resta4
      case hya4 => (intro w hSw; subst hSw; go_simp; (try with_reducible rfl))
      try simp only [Act.put, List.setIfInBounds_toArray, List.set_cons_zero, List.set_cons_succ]
      refine wpAnyH_done (by kernel_rfl) ?_ _
      clear hHeld
      gi_wp2_with fail
      obtain ⟨y0, yo, y1, y2, yb, ye, yt, hc, hz, p0, p1, p2, pg, pz⟩ := HQ.out
      obtain ⟨i0, hi, hz0', hz1, hz2⟩ := info_parts infoFrame
      replace yb := below_drew (below_drew yb)
      have hMid : ∀ Z, Mid Pv W2.drew.drew Z → Mid Pv W2 Z := fun Z h => ⟨h.size, h.same⟩
      change Boxed W2.drew.drew _ _ _ at y0
      change Boxed W2.drew.drew _ _ _ at y1
      change Boxed W2.drew.drew _ _ _ at y2
      change W2.drew.drew.ownsRow _ _ _ _ _ _ at yo
      change ErrT W2.drew.drew at ye
      change ∀ i, Pv i → i < W2.drew.drew.heap.size at yt
      have hl5 := hlong.out
      have hr5 := hrng.out
      have hs5 := hs2.out
      have hw5 := hz0.out
      refine wpIn_region_held_drew (S := fun w' => w'.cell? ⟨b8, 0, none⟩ = some (.int .i64 (tkK s a)) ∧ w'.cell? ⟨b8, 1, none⟩ = some (.int .i64 (tkS s a)) ∧ w'.cell? ⟨b8, 2, none⟩ = some (.string (tkD s a)) ∧ w'.cell? ⟨b8, 3, none⟩ = some (.int .i64 (tkN s a))) (by kernel_rfl) (by kernel_rfl) (by rintro ⟨_, _, h⟩; exact h) ⟨x0, x1, x2, x3⟩ (fun hHeld => ?_)
      replace x0 := hHeld.1
      replace x1 := hHeld.2.1
      replace x2 := hHeld.2.2.1
      replace x3 := hHeld.2.2.2
      replace u0 := y0.cell
      clear u1 u2 f0 f1 f2 x4 HQ HIN HO hlong hrng hs2 hval
      generalize W2.drew.drew = Y at *
      have hy5 : w.heap.size < Y.heap.size := y0.lt
      refine takeH (i := 1) (some 26) (v := ?_) rfl rfl (by kernel_rfl) (by kernel_rfl) (by kernel_rfl) (fun _ _ _ h => h) (Or.inl ⟨by rfl, ?hyr1⟩) hHeld ?restr1
      case hyr1 => (intro w hSw; (try dsimp only at hSw); go_simp; (try with_reducible rfl))
      try simp only [Act.put, List.setIfInBounds_toArray, List.set_cons_zero, List.set_cons_succ]
      refine takeH (i := 2) (some 27) (v := ?_) rfl rfl (by kernel_rfl) (by kernel_rfl) (by kernel_rfl) (fun _ _ _ h => h) (Or.inl ⟨by rfl, ?hyr2⟩) hHeld ?restr2
      case hyr2 => (intro w hSw; (try dsimp only at hSw); go_simp; (try with_reducible rfl))
      try simp only [Act.put, List.setIfInBounds_toArray, List.set_cons_zero, List.set_cons_succ]
      refine takeH (i := 5) (some 30) (v := ?_) rfl rfl (by kernel_rfl) (by kernel_rfl) (by kernel_rfl) (fun _ _ _ h => h) (Or.inl ⟨by rfl, ?hyr5⟩) hHeld ?restr5
      case hyr5 => (intro w hSw; (try dsimp only at hSw); go_simp; (try with_reducible rfl))
      try simp only [Act.put, List.setIfInBounds_toArray, List.set_cons_zero, List.set_cons_succ]
      refine takeH (i := 6) (some 31) (v := ?_) rfl rfl (by kernel_rfl) (by kernel_rfl) (by kernel_rfl) (fun _ _ _ h => h) (Or.inl ⟨by rfl, ?hyr6⟩) hHeld ?restr6
      case hyr6 => (intro w hSw; (try dsimp only at hSw); go_simp; (try with_reducible rfl))
      try simp only [Act.put, List.setIfInBounds_toArray, List.set_cons_zero, List.set_cons_succ]
      refine wpAnyH_ready (rs := [0, 3]) (by kernel_rfl) (by simp) ?_
      refine AllReadyH.cons rfl (fun K hK => ?_) ?_
      · go_simp
        refine hK.out _ _ hHeld (fun hHeld => ?_)
        clear hK K
        try simp only [Act.put, List.setIfInBounds_toArray, List.set_cons_zero, List.set_cons_succ]
        refine wpAnyH_ready (rs := [3]) (by kernel_rfl) (by simp) ?_
        refine AllReadyH.cons rfl (fun K hK => ?_) AllReadyH.nil
        go_simp
        refine hK.out _ _ ⟨keep_alloc _ x0, keep_alloc _ x1, keep_alloc _ x2, keep_alloc _ x3⟩ (fun hHeld => ?_)
        clear hK K u0
        try simp only [Act.put, List.setIfInBounds_toArray, List.set_cons_zero, List.set_cons_succ]
        refine wpAnyH_ready (rs := [4]) (by kernel_rfl) (by simp) ?_
        refine AllReadyH.cons rfl (fun K hK => ?_) AllReadyH.nil
        refine step_append_lies _ (by rfl) (.tmp 25) (.tmp 28) 25 (by rfl) w.heap.size 23 i0 (.agg #[.int .i64 0, .int .i64 0, .string ⟨#[]⟩]) 3 32 Tryd.underlying25 hi hz0' hz1 hz2 rfl (by decide) (.slice ao pre.length cp) pre.length (frCells s pre) (by rfl) (yo.alloc _) ⟨Y.heap.size, 0, none⟩ 1 1 [.int .i64 (tkK s a), .int .i64 (tkS s a), .string (tkD s a)] (by rfl) rfl (World.news_of_block (cs := #[.int .i64 (tkK s a), .int .i64 (tkS s a), .string (tkD s a)]) (t := 23) (fr := (0, 0)) (heap_alloc_new Y _)) (by simp [Value.oneCell']) (by decide) (by unfold maxLen; omega) (by omega) (by simp; omega) _ rfl ?_
        intro g cap w4 ho4 hg4 hgg hlt4
        obtain ⟨c0, c1, hAI, hMM⟩ := all_next hz hc y0 yo y1 y2 yb ye hz0.out p0 p1 p2 pg pz yt ho4 hg4 hgg
        have hx8 : ∀ o v, Y.cell? ⟨b8, o, none⟩ = some v → w4.cell? ⟨b8, o, none⟩ = some v := fun o v h => (World.cell?_of_block (hg4.block b8 (by simp; have := blt h; omega) (fun e => hn8 b8 e.symm rfl))).trans (keep_alloc _ h)
        refine hK.out _ _ ⟨hx8 _ _ x0, hx8 _ _ x1, hx8 _ _ x2, hx8 _ _ x3⟩ (fun hHeld => ?_)
        clear hK K
        try simp only [Act.put, List.setIfInBounds_toArray]
        have k0 := c0.cell
        have k1 := c1.cell
        have j0 := c0.frozen
        have j1 := c1.frozen
        have HF := Lib.hid (And.intro hAI hMM)
        clear hAI hMM c0 c1 ho4 hg4 hgg hlt4 hx8 y0 yo y1 y2 yb ye yt
        have hz8 : w.heap.size ≠ b8 := by omega
        have hz9 : w.heap.size + 1 ≠ b8 := hn81
        refine wpAnyH_ready (rs := [7]) (by kernel_rfl) (by simp) ?_
        refine AllReadyH.cons rfl (fun K hK => ?_) AllReadyH.nil
        go_simp
        refine hK.out _ _ ⟨by go_simp, by go_simp, by go_simp, by go_simp⟩ (fun hHeld => ?_)
        clear hK K
        try simp only [Act.put, List.setIfInBounds_toArray, List.set_cons_zero, List.set_cons_succ]
        refine wpAnyH_ready (rs := [8]) (by kernel_rfl) (by simp) ?_
        refine AllReadyH.cons rfl (fun K hK => ?_) AllReadyH.nil
        go_simp
        refine hK.out _ _ ⟨by go_simp, by go_simp, by go_simp, by go_simp⟩ (fun hHeld => ?_)
        clear hK K
        try simp only [Act.put, List.setIfInBounds_toArray, List.set_cons_zero, List.set_cons_succ]
        refine wpAnyH_done (by kernel_rfl) ?_ _
        exact ⟨HF.out.1, hMid _ HF.out.2⟩
      · refine AllReadyH.cons rfl (fun K hK => ?_) AllReadyH.nil
        go_simp
        refine hK.out _ _ ⟨keep_alloc _ x0, keep_alloc _ x1, keep_alloc _ x2, keep_alloc _ x3⟩ (fun hHeld => ?_)
        clear hK K
        try simp only [Act.put, List.setIfInBounds_toArray, List.set_cons_zero, List.set_cons_succ]
        have u0' := keep_alloc (.cells #[.int .i64 (tkK s a), .int .i64 (tkS s a), .string (tkD s a)] 23) u0
        refine wpAnyH_ready (rs := [0]) (by kernel_rfl) (by simp) ?_
        refine AllReadyH.cons rfl (fun K hK => ?_) AllReadyH.nil
        go_simp
        refine hK.out _ _ hHeld (fun hHeld => ?_)
        clear hK K u0 u0'
        try simp only [Act.put, List.setIfInBounds_toArray, List.set_cons_zero, List.set_cons_succ]
        refine wpAnyH_ready (rs := [4]) (by kernel_rfl) (by simp) ?_
        refine AllReadyH.cons rfl (fun K hK => ?_) AllReadyH.nil
        refine step_append_lies _ (by rfl) (.tmp 25) (.tmp 28) 25 (by rfl) w.heap.size 23 i0 (.agg #[.int .i64 0, .int .i64 0, .string ⟨#[]⟩]) 3 32 Tryd.underlying25 hi hz0' hz1 hz2 rfl (by decide) (.slice ao pre.length cp) pre.length (frCells s pre) (by rfl) (yo.alloc _) ⟨Y.heap.size, 0, none⟩ 1 1 [.int .i64 (tkK s a), .int .i64 (tkS s a), .string (tkD s a)] (by rfl) rfl (World.news_of_block (cs := #[.int .i64 (tkK s a), .int .i64 (tkS s a), .string (tkD s a)]) (t := 23) (fr := (0, 0)) (heap_alloc_new Y _)) (by simp [Value.oneCell']) (by decide) (by unfold maxLen; omega) (by omega) (by simp; omega) _ rfl ?_
        intro g cap w4 ho4 hg4 hgg hlt4
        obtain ⟨c0, c1, hAI, hMM⟩ := all_next hz hc y0 yo y1 y2 yb ye hz0.out p0 p1 p2 pg pz yt ho4 hg4 hgg
        have hx8 : ∀ o v, Y.cell? ⟨b8, o, none⟩ = some v → w4.cell? ⟨b8, o, none⟩ = some v := fun o v h => (World.cell?_of_block (hg4.block b8 (by simp; have := blt h; omega) (fun e => hn8 b8 e.symm rfl))).trans (keep_alloc _ h)
        refine hK.out _ _ ⟨hx8 _ _ x0, hx8 _ _ x1, hx8 _ _ x2, hx8 _ _ x3⟩ (fun hHeld => ?_)
        clear hK K
        try simp only [Act.put, List.setIfInBounds_toArray]
        have k0 := c0.cell
        have k1 := c1.cell
        have j0 := c0.frozen
        have j1 := c1.frozen
        have HF := Lib.hid (And.intro hAI hMM)
        clear hAI hMM c0 c1 ho4 hg4 hgg hlt4 hx8 y0 yo y1 y2 yb ye yt
        have hz8 : w.heap.size ≠ b8 := by omega
        have hz9 : w.heap.size + 1 ≠ b8 := hn81
        refine wpAnyH_ready (rs := [7]) (by kernel_rfl) (by simp) ?_
        refine AllReadyH.cons rfl (fun K hK => ?_) AllReadyH.nil
        go_simp
        refine hK.out _ _ ⟨by go_simp, by go_simp, by go_simp, by go_simp⟩ (fun hHeld => ?_)
        clear hK K
        try simp only [Act.put, List.setIfInBounds_toArray, List.set_cons_zero, List.set_cons_succ]
        refine wpAnyH_ready (rs := [8]) (by kernel_rfl) (by simp) ?_
        refine AllReadyH.cons rfl (fun K hK => ?_) AllReadyH.nil
        go_simp
        refine hK.out _ _ ⟨by go_simp, by go_simp, by go_simp, by go_simp⟩ (fun hHeld => ?_)
        clear hK K
        try simp only [Act.put, List.setIfInBounds_toArray, List.set_cons_zero, List.set_cons_succ]
        refine wpAnyH_done (by kernel_rfl) ?_ _
        exact ⟨HF.out.1, hMid _ HF.out.2⟩
    · by_cases h30 : tkE s a = 30
      · have hval : takV s a = .agg #[.int .i64 0, .int .i64 0, .string ⟨#[]⟩, .int .i64 0, .iface 76 (.agg #[.int .i64 30])] := by unfold takV tkX tkK tkS tkD tkN; simp only [hz, if_false, decide_false]; rw [h30]; rfl
        have HIN := Lib.hid (fun W => is_same 30 W)
        simp only [hval]
        gi_wp2
        refine ⟨(Mid.refl Pv W).alloc _, fun W2 hG hr2 => ?_⟩
        have x0 : W2.cell? ⟨W.heap.size, 0, none⟩ = some (.int .i64 0) := hG.cell (show (W.alloc (.cells #[(.int .i64 0), (.int .i64 0), (.string ⟨#[]⟩), (.int .i64 0), (.iface 76 (.agg #[.int .i64 30]))] 52)).cell? ⟨W.heap.size, 0, none⟩ = some (.int .i64 0) by go_simp) (by omega)
        have x1 : W2.cell? ⟨W.heap.size, 1, none⟩ = some (.int .i64 0) := hG.cell (show (W.alloc (.cells #[(.int .i64 0), (.int .i64 0), (.string ⟨#[]⟩), (.int .i64 0), (.iface 76 (.agg #[.int .i64 30]))] 52)).cell? ⟨W.heap.size, 1, none⟩ = some (.int .i64 0) by go_simp) (by omega)
        have x2 : W2.cell? ⟨W.heap.size, 2, none⟩ = some (.string ⟨#[]⟩) := hG.cell (show (W.alloc (.cells #[(.int .i64 0), (.int .i64 0), (.string ⟨#[]⟩), (.int .i64 0), (.iface 76 (.agg #[.int .i64 30]))] 52)).cell? ⟨W.heap.size, 2, none⟩ = some (.string ⟨#[]⟩) by go_simp) (by omega)
        have x3 : W2.cell? ⟨W.heap.size, 3, none⟩ = some (.int .i64 0) := hG.cell (show (W.alloc (.cells #[(.int .i64 0), (.int .i64 0), (.string ⟨#[]⟩), (.int .i64 0), (.iface 76 (.agg #[.int .i64 30]))] 52)).cell? ⟨W.heap.size, 3, none⟩ = some (.int .i64 0) by go_simp) (by omega)
        have x4 : W2.cell? ⟨W.heap.size, 4, none⟩ = some (.iface 76 (.agg #[.int .i64 30])) := hG.cell (show (W.alloc (.cells #[(.int .i64 0), (.int .i64 0), (.string ⟨#[]⟩), (.int .i64 0), (.iface 76 (.agg #[.int .i64 30]))] 52)).cell? ⟨W.heap.size, 4, none⟩ = some (.iface 76 (.agg #[.int .i64 30])) by go_simp) (by omega)
        have y0 := hG.boxed (b0.alloc (.cells #[(.int .i64 0), (.int .i64 0), (.string ⟨#[]⟩), (.int .i64 0), (.iface 76 (.agg #[.int .i64 30]))] 52)) (fun h => p0 (h ▸ hPl))
        have y1 := hG.boxed (b1.alloc (.cells #[(.int .i64 0), (.int .i64 0), (.string ⟨#[]⟩), (.int .i64 0), (.iface 76 (.agg #[.int .i64 30]))] 52)) (fun h => p1 (h ▸ hPl))
        have y2 := hG.boxed (b2.alloc (.cells #[(.int .i64 0), (.int .i64 0), (.string ⟨#[]⟩), (.int .i64 0), (.iface 76 (.agg #[.int .i64 30]))] 52)) (fun h => p2 (h ▸ hPl))
        have yo := hG.ownsRow (ho.alloc (.cells #[(.int .i64 0), (.int .i64 0), (.string ⟨#[]⟩), (.int .i64 0), (.iface 76 (.agg #[.int .i64 30]))] 52)) (fun b h k => pg b h (k ▸ hPl))
        have yb : Below w.heap.size w W2 := hG.belowz (hb.alloc (Nat.le_of_lt b0.lt) (.cells #[(.int .i64 0), (.int .i64 0), (.string ⟨#[]⟩), (.int .i64 0), (.iface 76 (.agg #[.int .i64 30]))] 52)) (by have := b0.lt; simp; omega) (fun i h => by rw [h]; exact pz _ hPl)
        have ye : ErrT W2 := hG.cell (keep_alloc (.cells #[(.int .i64 0), (.int .i64 0), (.string ⟨#[]⟩), (.int .i64 0), (.iface 76 (.agg #[.int .i64 30]))] 52) he) (fun h => by have := pz _ hPl; have := hz0.out; omega)
        have yt : ∀ i, Pv i → i < W2.heap.size := fun i h => by have h1 := pt i h; have h2 := hG.size; simp at h2; omega
        have hb8 : w.heap.size < W.heap.size := b0.lt
        have hn81 : w.heap.size + 1 ≠ W.heap.size := Nat.ne_of_lt b1.lt
        have hn82 : w.heap.size + 2 ≠ W.heap.size := Nat.ne_of_lt b2.lt
        have hn8 : ∀ g, (Value.slice ao pre.length cp).ownBlock = some g → g ≠ W.heap.size := fun g h => Nat.ne_of_lt (own_lt ho h)
        have u0 := y0.cell
        have u1 := y1.cell
        have u2 := y2.cell
        have f0 := y0.frozen
        have f1 := y1.frozen
        have f2 := y2.frozen
        have HQ := Lib.hid (And.intro y0 (And.intro yo (And.intro y1 (And.intro y2 (And.intro yb (And.intro ye (And.intro yt (And.intro hc (And.intro hz (And.intro p0 (And.intro p1 (And.intro p2 (And.intro pg pz)))))))))))))
        clear y0 y1 y2 yo yb ye yt b0 b1 b2 ho hb he pt p0 p1 p2 pg pz hc' hG hr2 hrec hll hc hPl hl HEE
        generalize W.heap.size = b8 at *
        gi_wp2
        refine wpIn_region_held_drew (S := fun w' => w' = W2.drew) (by kernel_rfl) (by kernel_rfl) (by rintro ⟨_, _, h⟩; exact h) rfl (fun hHeld => ?_)
        refine takeH (i := 0) (some 13) (v := ?_) rfl rfl (by kernel_rfl) (by kernel_rfl) (by kernel_rfl) (fun _ _ _ h => h) (Or.inl ⟨by rfl, ?hyb0⟩) hHeld ?restb0
        case hyb0 => (intro w hSw; subst hSw; go_simp; (try with_reducible rfl))
        try simp only [Act.put, List.setIfInBounds_toArray, List.set_cons_zero, List.set_cons_succ]
        refine takeH (i := 1) (some 14) (v := ?_) rfl rfl (by kernel_rfl) (by kernel_rfl) (by kernel_rfl) (fun _ _ _ h => h) (Or.inl ⟨by rfl, ?hyb1⟩) hHeld ?restb1
        case hyb1 => (intro w hSw; subst hSw; go_simp; (try with_reducible rfl))
        try simp only [Act.put, List.setIfInBounds_toArray, List.set_cons_zero, List.set_cons_succ]
        refine wpAnyH_ready (rs := [2]) (by kernel_rfl) (by simp) ?_
        refine AllReadyH.cons rfl (fun K hK => ?_) AllReadyH.nil
        go_simp
        go_at_call 33; (with_reducible refine (HO.out _).mono ?_); rintro e wn ⟨rfl, rfl⟩; clear hHeld
        refine hK.out _ _ rfl (fun hHeld => ?_)
        clear hK K
        try simp only [Act.put, List.setIfInBounds_toArray, List.set_cons_zero, List.set_cons_succ]
        refine wpAnyH_ready (rs := [3]) (by kernel_rfl) (by simp) ?_
        refine AllReadyH.cons rfl (fun K hK => ?_) AllReadyH.nil
        go_simp
        go_at_call 32; (with_reducible refine (HIN.out _).mono ?_); rintro e wn ⟨rfl, rfl⟩; clear hHeld
        refine hK.out _ _ rfl (fun hHeld => ?_)
        clear hK K
        try simp only [Act.put, List.setIfInBounds_toArray, List.set_cons_zero, List.set_cons_succ]
        refine takeH (i := 4) (some 12) (v := ?_) rfl rfl (by kernel_rfl) (by kernel_rfl) (by kernel_rfl) (fun _ _ _ h => h) (Or.inl ⟨by rfl, ?hyb4⟩) hHeld ?restb4
        case hyb4 => (intro w hSw; subst hSw; go_simp; (try with_reducible rfl))
        try simp only [Act.put, List.setIfInBounds_toArray, List.set_cons_zero, List.set_cons_succ]
        refine wpAnyH_done (by kernel_rfl) ?_ _
        clear hHeld
        gi_wp2
        obtain ⟨y0, yo, y1, y2, yb, ye, yt, hc, hz, p0, p1, p2, pg, pz⟩ := HQ.out
        refine ⟨⟨pre, a, _, rfl, rfl, hc, hz, y0, yo, y1, ?_, below_drew yb, ye, p0, p1, p2, pg, pz, yt⟩, ⟨Nat.le_refl _, fun _ _ _ => rfl⟩⟩
        rw [if_pos h30]; exact y2
      · have hval : takV s a = .agg #[.int .i64 0, .int .i64 0, .string ⟨#[]⟩, .int .i64 0, .iface 76 (.agg #[.int .i64 (tkE s a)])] := by unfold takV tkX tkK tkS tkD tkN; simp only [hz, if_false, decide_false]; rfl
        have HIN := Lib.hid (fun W => is_diff (tkE s a) 30 (by simp [h30]) W)
        have HNO := Lib.hid (fun W h => no_c W (tkE s a) h)
        simp only [hval]
        gi_wp2
        refine ⟨(Mid.refl Pv W).alloc _, fun W2 hG hr2 => ?_⟩
        have x0 : W2.cell? ⟨W.heap.size, 0, none⟩ = some (.int .i64 0) := hG.cell (show (W.alloc (.cells #[(.int .i64 0), (.int .i64 0), (.string ⟨#[]⟩), (.int .i64 0), (.iface 76 (.agg #[.int .i64 (tkE s a)]))] 52)).cell? ⟨W.heap.size, 0, none⟩ = some (.int .i64 0) by go_simp) (by omega)
        have x1 : W2.cell? ⟨W.heap.size, 1, none⟩ = some (.int .i64 0) := hG.cell (show (W.alloc (.cells #[(.int .i64 0), (.int .i64 0), (.string ⟨#[]⟩), (.int .i64 0), (.iface 76 (.agg #[.int .i64 (tkE s a)]))] 52)).cell? ⟨W.heap.size, 1, none⟩ = some (.int .i64 0) by go_simp) (by omega)
        have x2 : W2.cell? ⟨W.heap.size, 2, none⟩ = some (.string ⟨#[]⟩) := hG.cell (show (W.alloc (.cells #[(.int .i64 0), (.int .i64 0), (.string ⟨#[]⟩), (.int .i64 0), (.iface 76 (.agg #[.int .i64 (tkE s a)]))] 52)).cell? ⟨W.heap.size, 2, none⟩ = some (.string ⟨#[]⟩) by go_simp) (by omega)
        have x3 : W2.cell? ⟨W.heap.size, 3, none⟩ = some (.int .i64 0) := hG.cell (show (W.alloc (.cells #[(.int .i64 0), (.int .i64 0), (.string ⟨#[]⟩), (.int .i64 0), (.iface 76 (.agg #[.int .i64 (tkE s a)]))] 52)).cell? ⟨W.heap.size, 3, none⟩ = some (.int .i64 0) by go_simp) (by omega)
        have x4 : W2.cell? ⟨W.heap.size, 4, none⟩ = some (.iface 76 (.agg #[.int .i64 (tkE s a)])) := hG.cell (show (W.alloc (.cells #[(.int .i64 0), (.int .i64 0), (.string ⟨#[]⟩), (.int .i64 0), (.iface 76 (.agg #[.int .i64 (tkE s a)]))] 52)).cell? ⟨W.heap.size, 4, none⟩ = some (.iface 76 (.agg #[.int .i64 (tkE s a)])) by go_simp) (by omega)
        have y0 := hG.boxed (b0.alloc (.cells #[(.int .i64 0), (.int .i64 0), (.string ⟨#[]⟩), (.int .i64 0), (.iface 76 (.agg #[.int .i64 (tkE s a)]))] 52)) (fun h => p0 (h ▸ hPl))
        have y1 := hG.boxed (b1.alloc (.cells #[(.int .i64 0), (.int .i64 0), (.string ⟨#[]⟩), (.int .i64 0), (.iface 76 (.agg #[.int .i64 (tkE s a)]))] 52)) (fun h => p1 (h ▸ hPl))
        have y2 := hG.boxed (b2.alloc (.cells #[(.int .i64 0), (.int .i64 0), (.string ⟨#[]⟩), (.int .i64 0), (.iface 76 (.agg #[.int .i64 (tkE s a)]))] 52)) (fun h => p2 (h ▸ hPl))
        have yo := hG.ownsRow (ho.alloc (.cells #[(.int .i64 0), (.int .i64 0), (.string ⟨#[]⟩), (.int .i64 0), (.iface 76 (.agg #[.int .i64 (tkE s a)]))] 52)) (fun b h k => pg b h (k ▸ hPl))
        have yb : Below w.heap.size w W2 := hG.belowz (hb.alloc (Nat.le_of_lt b0.lt) (.cells #[(.int .i64 0), (.int .i64 0), (.string ⟨#[]⟩), (.int .i64 0), (.iface 76 (.agg #[.int .i64 (tkE s a)]))] 52)) (by have := b0.lt; simp; omega) (fun i h => by rw [h]; exact pz _ hPl)
        have ye : ErrT W2 := hG.cell (keep_alloc (.cells #[(.int .i64 0), (.int .i64 0), (.string ⟨#[]⟩), (.int .i64 0), (.iface 76 (.agg #[.int .i64 (tkE s a)]))] 52) he) (fun h => by have := pz _ hPl; have := hz0.out; omega)
        have yt : ∀ i, Pv i → i < W2.heap.size := fun i h => by have h1 := pt i h; have h2 := hG.size; simp at h2; omega
        have hb8 : w.heap.size < W.heap.size := b0.lt
        have hn81 : w.heap.size + 1 ≠ W.heap.size := Nat.ne_of_lt b1.lt
        have hn82 : w.heap.size + 2 ≠ W.heap.size := Nat.ne_of_lt b2.lt
        have hn8 : ∀ g, (Value.slice ao pre.length cp).ownBlock = some g → g ≠ W.heap.size := fun g h => Nat.ne_of_lt (own_lt ho h)
        have u0 := y0.cell
        have u1 := y1.cell
        have u2 := y2.cell
        have f0 := y0.frozen
        have f1 := y1.frozen
        have f2 := y2.frozen
        have HQ := Lib.hid (And.intro y0 (And.intro yo (And.intro y1 (And.intro y2 (And.intro yb (And.intro ye (And.intro yt (And.intro hc (And.intro hz (And.intro p0 (And.intro p1 (And.intro p2 (And.intro pg pz)))))))))))))
        clear y0 y1 y2 yo yb ye yt b0 b1 b2 ho hb he pt p0 p1 p2 pg pz hc' hG hr2 hrec hll hc hPl hl HEE
        generalize W.heap.size = b8 at *
        gi_wp2
        refine wpIn_region_held_drew (S := fun w' => w' = W2.drew) (by kernel_rfl) (by kernel_rfl) (by rintro ⟨_, _, h⟩; exact h) rfl (fun hHeld => ?_)
        refine takeH (i := 0) (some 13) (v := ?_) rfl rfl (by kernel_rfl) (by kernel_rfl) (by kernel_rfl) (fun _ _ _ h => h) (Or.inl ⟨by rfl, ?hyc0⟩) hHeld ?restc0
        case hyc0 => (intro w hSw; subst hSw; go_simp; (try with_reducible rfl))
        try simp only [Act.put, List.setIfInBounds_toArray, List.set_cons_zero, List.set_cons_succ]
        refine takeH (i := 1) (some 14) (v := ?_) rfl rfl (by kernel_rfl) (by kernel_rfl) (by kernel_rfl) (fun _ _ _ h => h) (Or.inl ⟨by rfl, ?hyc1⟩) hHeld ?restc1
        case hyc1 => (intro w hSw; subst hSw; go_simp; (try with_reducible rfl))
        try simp only [Act.put, List.setIfInBounds_toArray, List.set_cons_zero, List.set_cons_succ]
        refine wpAnyH_ready (rs := [2]) (by kernel_rfl) (by simp) ?_
        refine AllReadyH.cons rfl (fun K hK => ?_) AllReadyH.nil
        go_simp
        go_at_call 33; (with_reducible refine (HO.out _).mono ?_); rintro e wn ⟨rfl, rfl⟩; clear hHeld
        refine hK.out _ _ rfl (fun hHeld => ?_)
        clear hK K
        try simp only [Act.put, List.setIfInBounds_toArray, List.set_cons_zero, List.set_cons_succ]
        refine wpAnyH_ready (rs := [3]) (by kernel_rfl) (by simp) ?_
        refine AllReadyH.cons rfl (fun K hK => ?_) AllReadyH.nil
        go_simp
        go_at_call 32; (with_reducible refine (HIN.out _).mono ?_); rintro e wn ⟨rfl, rfl⟩; clear hHeld
        refine hK.out _ _ rfl (fun hHeld => ?_)
        clear hK K
        try simp only [Act.put, List.setIfInBounds_toArray, List.set_cons_zero, List.set_cons_succ]
        refine takeH (i := 4) (some 12) (v := ?_) rfl rfl (by kernel_rfl) (by kernel_rfl) (by kernel_rfl) (fun _ _ _ h => h) (Or.inl ⟨by rfl, ?hyc4⟩) hHeld ?restc4
        case hyc4 => (intro w hSw; subst hSw; go_simp; (try with_reducible rfl))
        try simp only [Act.put, List.setIfInBounds_toArray, List.set_cons_zero, List.set_cons_succ]
        refine wpAnyH_done (by kernel_rfl) ?_ _
        clear hHeld
        gi_wp2_with fail
        obtain ⟨y0, yo, y1, y2, yb, ye, yt, hc, hz, p0, p1, p2, pg, pz⟩ := HQ.out
        refine (CallsIn.inRound l (callsIn_wide.2 (HNO.out W2.drew ye))).mono ?_
        rintro e w3 ⟨rfl, hb3⟩
        have g3 := Goes.of_below (Pv := fun _ => False) hb3
        have c0 := g3.boxed (show Boxed W2.drew _ _ _ from y0) (fun h => h)
        have c1 := g3.boxed (show Boxed W2.drew _ _ _ from y1) (fun h => h)
        have c2 := g3.boxed (show Boxed W2.drew _ _ _ from y2) (fun h => h)
        have co := g3.ownsRow (show W2.drew.ownsRow _ _ _ _ _ _ from yo) (fun _ _ h => h)
        have n2 := c2.not_row (by decide) co
        have cb := btr (below_drew yb) hb3
        have ce := (show ErrT W2.drew from ye).on hb3
        have ct : ∀ i, Pv i → i < w3.heap.size := fun i h => Nat.lt_of_lt_of_le (yt i h) hb3.size
        have cm : Mid Pv W2 w3 := ⟨hb3.size, fun i hi _ => hb3.block i hi⟩
        have k2 := c2.cell
        have j2 := c2.frozen
        have hw5 := hz0.out
        have HF : Hid (AllX s w.heap.size w (.exit 0) (pre ++ [a]) Pv (w3.setCell ⟨w.heap.size + 2, 0, none⟩ (.int .i64 (tkE s a))) ∧ Mid Pv W2 (w3.setCell ⟨w.heap.size + 2, 0, none⟩ (.int .i64 (tkE s a)))) := Lib.hid ⟨⟨pre, a, _, rfl, rfl, hc, hz, c0.kept (grownBy_setCell' _ _ _) (by simp), co.kept (grownBy_setCell' w3 _ _) (.inr n2.symm), c1.kept (grownBy_setCell' _ _ _) (by simp), by rw [if_neg h30]; exact c2.set _, cb.setCell (p := ⟨w.heap.size + 2, 0, none⟩) (by show w.heap.size ≤ w.heap.size + 2; omega) _, (set_other w3 _ (b := 0) (bm := w.heap.size + 2) (o := 0) (om := 0) (by omega)).trans ce, p0, p1, p2, pg, pz, fun i h => Nat.lt_of_lt_of_le (ct i h) (grownBy_setCell' w3 (w.heap.size + 2) _).size⟩, cm.setCell _ p2⟩
        clear y0 yo y1 y2 yb ye yt c0 c1 c2 co n2 cb ce ct cm g3 hb3 HQ x0 x1 x2 x3 x4 u0 u1 u2 f0 f1 f2
        gi_wp2
        exact HF.out
  case done =>
    rintro D xs Pv W hD hPD ⟨pre, a, rfl, hc, hn⟩ ⟨a', v, hc', _⟩ hdef
    exact absurd hc'.last hn
  case stop =>
    rintro D c xs Pv W hD hPD hSp ⟨pre, a, v, rfl, rfl, hc, hn, b0, ho, b1, b2, hb, he, p0, p1, p2, pg, pz, pt⟩ hdef
    have u0 := b0.cell
    have u1 := b1.cell
    have u2 := b2.cell
    obtain ⟨ao, cp, rfl⟩ := own_form ho
    have HQ := Lib.hid (And.intro hc (And.intro hn (And.intro ho hb)))
    have HD := Lib.hid hdef
    clear hc hn ho hb hdef b0 b1 b2 he p0 p1 p2 pg pz pt hSp HFI hI
    generalize hE : (if tkE s a = 30 then 0 else tkE s a) = E at *
    replace hE := Lib.hid hE
    gi_wp2
    refine HK.out _ _ ?_
    gi_wp2_with fail
    gi_region
    all_goals
      gi_wp2
      rw [Exit.noGoto_ret]
      refine ⟨by simp, .inl ⟨_, _, rfl, run_takeDeferred (show W.drew.heap[D]? = some (.deferred (some [])) from HD.out), ?_⟩⟩
      obtain ⟨hc, hn, ho, hb⟩ := HQ.out
      refine ⟨.tuple #[.slice ao pre.length cp, .int .i64 a, .int .i64 E], by simp [results, Tryd.results23, go_sem], pre, a, _, by rw [hE.out], hc, hn, ?_, ?_⟩
      · exact ownsRow_putObj (show W.drew.ownsRow _ _ _ _ _ _ from ho) _ (show W.drew.heap[D]? = some (.deferred (some [])) from HD.out) rfl
      · exact (below_drew hb).grown (grownBy_putObj' W.drew D (Obj.deferred none)) hb.size (fun j hj => by cases hj; omega)
theorem all_c (s : ByteArray) (hs : (s.size : Int) ≤ 100000) (w : World) (hE : ErrT w) : Calls Tryd.prog 23 #[.string s] w fun x w' => ∃ (pre : List Int) (a : Int) (v : Value), x = .returned (.tuple #[v, .int .i64 a, .int .i64 (if tkE s a = 30 then 0 else tkE s a)]) ∧ Chain s pre a ∧ ¬ tkE s a = 0 ∧ w'.ownsRow w.heap.size 23 3 v pre.length (frCells s pre) ∧ Below w.heap.size w w' :=
  callsIn_wide.1 (all_in s hs w hE)
end Go.Proofs.YtdcnpcdohgecbaaDoor

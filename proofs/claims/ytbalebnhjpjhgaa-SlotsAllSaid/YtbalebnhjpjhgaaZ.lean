/- New slots, taken one after the other, plainly; slots in memory where a variable is written. -/
import Derived.Test.YtbalebnhjpjhgaaY
namespace Go.Proofs.Ytbalebnhjpjhgaa
open Go.RowKit

/-- New slots of which k are taken. -/
def newT (n k : Nat) : Sl := ⟨List.replicate k 1 ++ List.replicate (n - k) 0, List.replicate k true ++ List.replicate (n - k) false, frees n (n - k)⟩
theorem newT_zero (n : Nat) : newT n 0 = newS n := by simp [newT, newS]
theorem frees_mem {n m : Nat} (h : m ≤ n) {x : Int} (hx : x ∈ frees n m) : 0 ≤ x ∧ x < n := by
  obtain ⟨j, hj, rfl⟩ := List.mem_map.1 hx
  have := List.mem_range.1 hj
  omega
theorem frees_nodup (n m : Nat) : (frees n m).Nodup := by
  unfold frees
  induction m with
  | zero => simp
  | succ m ih =>
    rw [List.range_succ, List.map_append, List.nodup_append]
    refine ⟨ih, by simp, ?_⟩
    rintro a ha b hb rfl
    obtain ⟨j, hj, e⟩ := List.mem_map.1 ha
    have := List.mem_range.1 hj
    simp at hb
    omega
theorem newS_right {n : Nat} (h1 : 1 ≤ n) (h2 : n ≤ 64) : RightS (newS n) := by
  refine ⟨by simpa [newS] using h1, by simpa [newS] using h2, by simp [newS], by simp [newS, frees_length], ?_, ?_, frees_nodup _ _, ?_⟩
  · intro g hg
    simp only [newS, List.mem_replicate] at hg
    omega
  · intro x hx
    have := frees_mem (Nat.le_refl n) hx
    refine ⟨this.1, by simpa [newS] using this.2, ?_⟩
    have hl : x.toNat < n := by omega
    simp [newS, hl]
  · rw [takenOf_length]
    simp [newS, frees_length, List.count_replicate]
theorem set_mid {α : Type} (l : List α) (x y : α) (r : List α) : (l ++ x :: r).set l.length y = l ++ y :: r := by
  induction l with
  | nil => rfl
  | cons z l ih => simp [ih]
theorem set_rep {α : Type} (x y : α) (k m : Nat) : (List.replicate k y ++ List.replicate (m + 1) x).set k y = List.replicate (k + 1) y ++ List.replicate m x := by
  have := set_mid (List.replicate k y) x y (List.replicate m x)
  rw [List.length_replicate] at this
  rw [List.replicate_succ (n := m), this, List.replicate_succ' (n := k)]
  simp
theorem newT_taken {n k : Nat} (h : k < n) : newT n (k + 1) = (newT n k).taken (frees n (n - k - 1)) k 0 := by
  obtain ⟨m, rfl⟩ : ∃ m, n = k + 1 + m := ⟨n - k - 1, by omega⟩
  have e1 : k + 1 + m - (k + 1) = m := by omega
  have e2 : k + 1 + m - k = m + 1 := by omega
  unfold newT Sl.taken
  rw [e1, e2]
  simp only [Sl.mk.injEq]
  refine ⟨?_, ?_, by congr 1⟩
  · exact (set_rep _ _ k m).symm
  · exact (set_rep _ _ k m).symm
theorem newT_f {n k : Nat} (h : k < n) : (newT n k).f = frees n (n - k - 1) ++ [(k : Int)] := by
  have : n - k = n - k - 1 + 1 := by omega
  unfold newT
  simp only
  rw [this, frees_succ]
  congr 1
  simp
  omega
theorem newT_g {n k : Nat} (h : k < n) : (newT n k).g[k]? = some 0 := by
  obtain ⟨m, rfl⟩ : ∃ m, n = k + 1 + m := ⟨n - k - 1, by omega⟩
  unfold newT
  simp only
  rw [List.getElem?_append_right (by simp), List.length_replicate, Nat.sub_self, show k + 1 + m - k = m + 1 by omega]
  simp [List.replicate_succ]
theorem newT_right {n : Nat} (h1 : 1 ≤ n) (h2 : n ≤ 64) (k : Nat) (hk : k ≤ n) : RightS (newT n k) := by
  induction k with
  | zero => rw [newT_zero]; exact newS_right h1 h2
  | succ k ih =>
    rw [newT_taken (by omega)]
    exact taken_right (ih (by omega)) (newT_f (by omega)) (newT_g (by omega)) (by omega)
theorem newT_take {n k : Nat} (h1 : 1 ≤ n) (h2 : n ≤ 64) (h : k < n) : (newT n k).take = (newT n (k + 1), ((k : Int), 1), 0) := by
  have R := newT_right h1 h2 k (by omega)
  unfold Sl.take
  rw [(right_iff _).2 R, newT_f h]
  simp only [if_true, List.getLast?_append, List.getLast?_singleton, Option.some_or, Int.toNat_natCast, newT_g h, Option.getD_some, List.dropLast_concat]
  rw [newT_taken h]
  rfl
theorem newT_full {n : Nat} (h1 : 1 ≤ n) (h2 : n ≤ 64) : (newT n n).take = (nilS, (0, 0), 92) := by
  have R := newT_right h1 h2 n (Nat.le_refl _)
  unfold Sl.take
  rw [(right_iff _).2 R]
  simp [newT, frees]
theorem newT_all {n k : Nat} (h1 : 1 ≤ n) (h2 : n ≤ 64) (h : k ≤ n) : (newT n k).all.length = k := by
  unfold Sl.all
  rw [(right_iff _).2 (newT_right h1 h2 k h), if_pos rfl, takenOf_length]
  simp [newT, List.count_append, List.count_replicate]
theorem newT_len {n k : Nat} (h : k ≤ n) : (newT n k).g.length = n ∧ (newT n k).u.length = n ∧ (newT n k).f.length = n - k := by
  refine ⟨by simp [newT]; omega, by simp [newT]; omega, by simp [newT, frees_length]⟩

/-- A cell that holds a slice is none of those. -/
theorem IntsAt.over {n₀ X o : Nat} {W : World} {a : Option Addr} {zs : List Int} {v : Value} {b : Option Addr} {l c : Nat} (h : IntsAt n₀ W a zs) (hc : W.cell? ⟨X, o, none⟩ = some (.slice b l c)) : IntsAt n₀ (W.setCell ⟨X, o, none⟩ v) a zs := fun i hi => by
  obtain ⟨b', off, e, hb, hci⟩ := h i hi
  refine ⟨b', off, e, hb, ?_⟩
  rw [World.cell?_setCell_other _ _ _ _ (fun e => by rw [← e, hc] at hci; cases hci), hci]
theorem BoolsAt.over {n₀ X o : Nat} {W : World} {a : Option Addr} {zs : List Bool} {v : Value} {b : Option Addr} {l c : Nat} (h : BoolsAt n₀ W a zs) (hc : W.cell? ⟨X, o, none⟩ = some (.slice b l c)) : BoolsAt n₀ (W.setCell ⟨X, o, none⟩ v) a zs := fun i hi => by
  obtain ⟨b', off, e, hb, hci⟩ := h i hi
  refine ⟨b', off, e, hb, ?_⟩
  rw [World.cell?_setCell_other _ _ _ _ (fun e => by rw [← e, hc] at hci; cases hci), hci]
/-- A variable of slots. -/
structure VarS (X : Nat) (a1 a2 a3 : Option Addr) (L1 L2 L3 c1 c2 c3 : Nat) (W : World) : Prop where
  e0 : W.cell? ⟨X, 0, none⟩ = some (.slice a1 L1 c1)
  e1 : W.cell? ⟨X, 1, none⟩ = some (.slice a2 L2 c2)
  e2 : W.cell? ⟨X, 2, none⟩ = some (.slice a3 L3 c3)
  f0 : W.frozen? ⟨X, 0, none⟩ = false
  f1 : W.frozen? ⟨X, 1, none⟩ = false
  f2 : W.frozen? ⟨X, 2, none⟩ = false
theorem VarS.on {X n : Nat} {a1 a2 a3 : Option Addr} {L1 L2 L3 c1 c2 c3 : Nat} {W W' : World} (h : VarS X a1 a2 a3 L1 L2 L3 c1 c2 c3 W) (hb : Below n W W') (hB : X < n) : VarS X a1 a2 a3 L1 L2 L3 c1 c2 c3 W' :=
  ⟨(hb.cell (p := ⟨X, 0, none⟩) hB).trans h.e0, (hb.cell (p := ⟨X, 1, none⟩) hB).trans h.e1, (hb.cell (p := ⟨X, 2, none⟩) hB).trans h.e2, (hb.frozen (p := ⟨X, 0, none⟩) hB).trans h.f0, (hb.frozen (p := ⟨X, 1, none⟩) hB).trans h.f1, (hb.frozen (p := ⟨X, 2, none⟩) hB).trans h.f2⟩
theorem VarS.lt {X : Nat} {a1 a2 a3 : Option Addr} {L1 L2 L3 c1 c2 c3 : Nat} {W : World} (h : VarS X a1 a2 a3 L1 L2 L3 c1 c2 c3 W) : X < W.heap.size := blt h.e0
theorem VarS.new (W : World) (t : TypeId) (a1 a2 a3 : Option Addr) (L1 L2 L3 c1 c2 c3 : Nat) : VarS W.heap.size a1 a2 a3 L1 L2 L3 c1 c2 c3 (W.alloc (.cells #[.slice a1 L1 c1, .slice a2 L2 c2, .slice a3 L3 c3] t)) := by constructor <;> go_simp
/-- The world where it is written. -/
def put3 (W : World) (X : Nat) (v0 v1 v2 : Value) : World := ((W.setCell ⟨X, 0, none⟩ v0).setCell ⟨X, 1, none⟩ v1).setCell ⟨X, 2, none⟩ v2
theorem VarS.put {X : Nat} {a1 a2 a3 : Option Addr} {L1 L2 L3 c1 c2 c3 : Nat} {W : World} (h : VarS X a1 a2 a3 L1 L2 L3 c1 c2 c3 W) (b1 b2 b3 : Option Addr) (M1 M2 M3 d1 d2 d3 : Nat) :
    VarS X b1 b2 b3 M1 M2 M3 d1 d2 d3 (put3 W X (.slice b1 M1 d1) (.slice b2 M2 d2) (.slice b3 M3 d3)) := by
  obtain ⟨e0, e1, e2, f0, f1, f2⟩ := h
  unfold put3
  constructor <;> go_simp
theorem SlotsAt.put {n X : Nat} {a1 a2 a3 : Option Addr} {L1 L2 L3 c1 c2 c3 : Nat} {W : World} {x1 x2 x3 : Option Addr} {s : Sl} (k : SlotsAt n W x1 x2 x3 s.g s.u s.f) (h : VarS X a1 a2 a3 L1 L2 L3 c1 c2 c3 W) (b1 b2 b3 : Option Addr) (M1 M2 M3 d1 d2 d3 : Nat) :
    SlotsAt n (put3 W X (.slice b1 M1 d1) (.slice b2 M2 d2) (.slice b3 M3 d3)) x1 x2 x3 s.g s.u s.f := by
  have y1 : (W.setCell ⟨X, 0, none⟩ (.slice b1 M1 d1)).cell? ⟨X, 1, none⟩ = some (.slice a2 L2 c2) := (World.cell?_setCell_other _ _ _ _ (by simp)).trans h.e1
  have y2 : ((W.setCell ⟨X, 0, none⟩ (.slice b1 M1 d1)).setCell ⟨X, 1, none⟩ (.slice b2 M2 d2)).cell? ⟨X, 2, none⟩ = some (.slice a3 L3 c3) := (World.cell?_setCell_other _ _ _ _ (by simp)).trans ((World.cell?_setCell_other _ _ _ _ (by simp)).trans h.e2)
  exact ⟨((k.g.over h.e0).over y1).over y2, ((k.u.over h.e0).over y1).over y2, ((k.f.over h.e0).over y1).over y2⟩
theorem put3_size (W : World) (X : Nat) (v0 v1 v2 : Value) : (put3 W X v0 v1 v2).heap.size = W.heap.size := by simp [put3, World.setCell]
theorem put3_below {n X : Nat} {w W : World} (h : Below n w W) (hX : n ≤ X) (v0 v1 v2 : Value) : Below n w (put3 W X v0 v1 v2) := below_set3 h hX v0 v1 v2
end Go.Proofs.Ytbalebnhjpjhgaa

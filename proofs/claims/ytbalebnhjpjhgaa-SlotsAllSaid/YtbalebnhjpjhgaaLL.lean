/- The handles that are taken, plainly. -/
import Derived.Test.YtbalebnhjpjhgaaLK
namespace Go.Proofs.Ytbalebnhjpjhgaa
open Go.RowKit

theorem takenUpto_mem (g : List Int) (u : List Bool) (k : Nat) (x : Int × Int) : x ∈ takenUpto g u k ↔ ∃ j, j < k ∧ u[j]?.getD false = true ∧ x = ((j : Int), g[j]?.getD 0) := by
  induction k with
  | zero => simp [takenUpto]
  | succ k ih =>
    simp only [takenUpto, List.mem_append, ih]
    constructor
    · rintro (⟨j, hj, h⟩ | h)
      · exact ⟨j, by omega, h⟩
      · split at h
        · rename_i hu
          exact ⟨k, by omega, hu, by simpa using h⟩
        · cases h
    · rintro ⟨j, hj, hu, rfl⟩
      by_cases e : j = k
      · subst e
        right
        rw [if_pos hu]
        simp
      · exact .inl ⟨j, by omega, hu, rfl⟩
theorem takenUpto_sorted (g : List Int) (u : List Bool) (k : Nat) : (takenUpto g u k).Pairwise (fun a b => a.1 < b.1) := by
  induction k with
  | zero => simp [takenUpto]
  | succ k ih =>
    simp only [takenUpto]
    rw [List.pairwise_append]
    refine ⟨ih, by split <;> simp, ?_⟩
    intro a ha b hb
    obtain ⟨j, hj, _, rfl⟩ := (takenUpto_mem g u k a).1 ha
    split at hb
    · simp at hb; subst hb; simp only; omega
    · cases hb
theorem valid_mem {s : Sl} (hr : s.right = true) (x : Int × Int) : s.valid x = decide (x ∈ s.all) := by
  have R := (right_iff s).1 hr
  have h3 := R.l3
  rw [valid_iff hr, decide_eq_decide]
  unfold Sl.all
  rw [hr, if_pos rfl]
  unfold takenOf
  rw [takenUpto_mem]
  unfold Live
  constructor
  · rintro ⟨h0, h1, h2, h4⟩
    refine ⟨x.1.toNat, by omega, by rw [h2]; rfl, ?_⟩
    rw [h4, Option.getD_some]
    exact Prod.ext (show x.1 = (x.1.toNat : Int) by omega) rfl
  · rintro ⟨j, hj, hu, rfl⟩
    have hg : j < s.g.length := by omega
    refine ⟨by simp, by simp; omega, ?_, ?_⟩
    · simp only [Int.toNat_natCast]
      rw [List.getElem?_eq_getElem hj] at hu ⊢
      simpa using hu
    · simp only [Int.toNat_natCast]
      rw [List.getElem?_eq_getElem hg, Option.getD_some]
theorem all_sorted (s : Sl) {i : Nat} {a b : Int × Int} (h1 : s.all[i]? = some a) (h2 : s.all[i + 1]? = some b) : a.1 < b.1 := by
  have hp : s.all.Pairwise (fun a b => a.1 < b.1) := by
    unfold Sl.all
    split
    · exact takenUpto_sorted _ _ _
    · simp
  obtain ⟨h1', e1⟩ := List.getElem?_eq_some_iff.1 h1
  obtain ⟨h2', e2⟩ := List.getElem?_eq_some_iff.1 h2
  have := (List.pairwise_iff_getElem.1 hp) i (i + 1) h1' h2' (by omega)
  rwa [e1, e2] at this
theorem all_count {s : Sl} (hr : s.right = true) : s.all.length + s.f.length = s.g.length := by
  have R := (right_iff s).1 hr
  have := R.count
  have h3 := R.l3
  unfold Sl.all
  rw [hr, if_pos rfl]
  omega
/-- Their cells. -/
theorem handCells_get (l : List (Int × Int)) (i : Nat) (x : Int × Int) (h : l[i]? = some x) : (handCells l)[i * 2]? = some (.int .i64 x.1) ∧ (handCells l)[i * 2 + 1]? = some (.int .i64 x.2) := by
  induction l generalizing i with
  | nil => simp at h
  | cons y r ih =>
    cases i with
    | zero => simp at h; subst h; simp [handCells]
    | succ i =>
      simp at h
      have := ih i h
      have e : (i + 1) * 2 = i * 2 + 2 := by omega
      rw [e]
      simpa [handCells] using this
theorem OwnH.cells {base : Nat} {w : World} {v : Value} {l : List (Int × Int)} (h : OwnH base w v l) (hl : 0 < l.length) : ∃ G cap, v = .slice (some ⟨G, 0, none⟩) l.length cap ∧ G < w.heap.size ∧
    ∀ i x, l[i]? = some x → w.cell? ⟨G, i * 2, none⟩ = some (.int .i64 x.1) ∧ w.cell? ⟨G, i * 2 + 1, none⟩ = some (.int .i64 x.2) := by
  obtain ⟨G, cap, rfl, _, hG⟩ := World.ownsRow.form h hl
  refine ⟨G, cap, rfl, hG, fun i x hx => ?_⟩
  have hi := (List.getElem?_eq_some_iff.1 hx).1
  obtain ⟨q1, q2⟩ := handCells_get l i x hx
  exact ⟨(World.ownsRow.cellAt h (i * 2) (by omega)).trans q1, (World.ownsRow.cellAt h (i * 2 + 1) (by omega)).trans q2⟩
end Go.Proofs.Ytbalebnhjpjhgaa

/- Calls cut; what a queue has behind many. -/
import Derived.Test.YtoddlldjhaacnaaO
namespace Go.Proofs.Ytoddlldjhaacnaa
open Go.RowKit

/-- The calls that a statement does. -/
def cutAll (xs : List OpV) : List OpV := (xs.take 40).map OpV.cut
theorem cutAll_length (xs : List OpV) : (cutAll xs).length = min 40 xs.length := by simp [cutAll]
theorem cutAll_size (xs : List OpV) : ∀ y ∈ cutAll xs, y.s.size ≤ 100 := by
  intro y hy
  simp only [cutAll, List.mem_map] at hy
  obtain ⟨x, _, rfl⟩ := hy
  exact cut100_le _
theorem OpsIn.below {n : Nat} {W W' : World} {a : Option Addr} {xs : List OpV} (h : OpsIn n W a xs) (hb : Below n W W') : OpsIn n W' a xs := fun i hi =>
  let ⟨b, off, e, hlt, h0, h1, h2⟩ := h i hi
  ⟨b, off, e, hlt, (hb.cell (p := ⟨b, off + 3 * i, none⟩) hlt).trans h0, (hb.cell (p := ⟨b, off + 3 * i + 1, none⟩) hlt).trans h1, (hb.cell (p := ⟨b, off + 3 * i + 2, none⟩) hlt).trans h2⟩
theorem OpsIn.mono {n m : Nat} {W : World} {a : Option Addr} {xs : List OpV} (h : OpsIn n W a xs) (hm : n ≤ m) : OpsIn m W a xs := fun i hi =>
  let ⟨b, off, e, hlt, r⟩ := h i hi
  ⟨b, off, e, Nat.lt_of_lt_of_le hlt hm, r⟩
theorem flat_at (ys : List OpV) : ∀ (i : Nat) (h : i < ys.length), (ys.flatMap OpV.cells)[3 * i]? = some (.int .i64 ys[i].kind) ∧ (ys.flatMap OpV.cells)[3 * i + 1]? = some (.int .i64 ys[i].n) ∧ (ys.flatMap OpV.cells)[3 * i + 2]? = some (.string ys[i].s) := by
  induction ys with
  | nil => intro i h; simp at h
  | cons y ys ih =>
    intro i h
    cases i with
    | zero => simp [OpV.cells]
    | succ i =>
      have := ih i (by simpa using h)
      have e : ∀ j, ((y :: ys).flatMap OpV.cells)[j + 3]? = (ys.flatMap OpV.cells)[j]? := fun j => by
        simp [List.flatMap_cons, OpV.cells]
      rw [show 3 * (i + 1) = 3 * i + 3 by omega, show 3 * i + 3 + 1 = (3 * i + 1) + 3 by omega, show 3 * i + 3 + 2 = (3 * i + 2) + 3 by omega, e, e, e]
      exact this
/-- What Cut answers. -/
def CutPost (w : World) (xs : List OpV) (e : Ending) (w' : World) : Prop :=
  ∃ a c, e = .returned (.slice a (cutAll xs).length c) ∧ OpsIn w'.heap.size w' a (cutAll xs) ∧ Below w.heap.size w w'
theorem cut_post (a : Option Addr) (cap : Nat) (xs : List OpV) (w : World) (h : OpsIn w.heap.size w a xs) :
    Calls Try.prog 9 #[.slice a xs.length cap] w (CutPost w xs) := by
  refine (cut_any a cap xs w h).mono ?_
  rintro e w' ⟨v, rfl, ho, hb⟩
  have ef : ((xs.take 40).flatMap fun x => x.cut.cells) = (cutAll xs).flatMap OpV.cells := by unfold cutAll; rw [List.flatMap_map]
  rw [ef, ← cutAll_length] at ho
  obtain ⟨hlen, ⟨rfl, h0⟩ | ⟨g, cap', cur, rfl, hg, hheap, hnc, hcm, hcs, htk⟩⟩ := ho
  · refine ⟨none, 0, by rw [h0], fun i hi => ?_, hb⟩
    omega
  · refine ⟨some ⟨g, 0, none⟩, cap', rfl, fun i hi => ?_, hb⟩
    have hgl : g < w'.heap.size := by
      rcases Nat.lt_or_ge g w'.heap.size with hlt | hge
      · exact hlt
      · rw [Array.getElem?_eq_none hge] at hheap; cases hheap
    obtain ⟨f0, f1, f2⟩ := flat_at (cutAll xs) i hi
    have key : ∀ j v, j < (cutAll xs).length * 3 → ((cutAll xs).flatMap OpV.cells)[j]? = some v → w'.cell? ⟨g, 0 + j, none⟩ = some v := fun j v hj hv => by
      rw [← htk, List.getElem?_take_of_lt hj] at hv
      simp only [World.cell?, hheap, Nat.zero_add]
      simpa using hv
    refine ⟨g, 0, rfl, hgl, key _ _ (by omega) f0, ?_, ?_⟩
    · rw [Nat.add_assoc]; exact key _ _ (by omega) f1
    · rw [Nat.add_assoc]; exact key _ _ (by omega) f2

/-- What a queue has behind calls. -/
def runL (cap : Nat) (l : List UInt8) (ys : List OpV) : List UInt8 := ys.foldl (stepL cap) l
theorem runL_snoc (cap : Nat) (l : List UInt8) (ys : List OpV) (y : OpV) : runL cap l (ys ++ [y]) = stepL cap (runL cap l ys) y := by simp [runL]
theorem runL_take (cap : Nat) (l : List UInt8) (ys : List OpV) (k : Nat) (h : k < ys.length) : runL cap l (ys.take (k + 1)) = stepL cap (runL cap l (ys.take k)) ys[k] := by
  rw [List.take_succ_eq_append_getElem h, runL_snoc]
end Go.Proofs.Ytoddlldjhaacnaa

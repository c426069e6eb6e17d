/- The first twenty of some numbers; the least of some numbers. -/
import Derived.Test.YtbdklcdecknceaaJ
namespace Go.Proofs.Ytbdklcdecknceaa
open Go.RowKit

theorem lt_of_cell {w : World} {b o : Nat} {v : Value} (h : w.cell? ⟨b, o, none⟩ = some v) : b < w.heap.size := World.block_lt_of_cell? w ⟨b, o, none⟩ h

/-- The first twenty. -/
def fewOf (zs : List Int) : List Int := zs.take 20
theorem fewOf_length (zs : List Int) : (fewOf zs).length = min zs.length 20 := by unfold fewOf; rw [List.length_take, Nat.min_comm]
theorem Ints.few {n₀ : Nat} {W : World} {a : Option Addr} {len cap : Nat} {zs : List Int} (hz : zs.length = len) (h : Ints n₀ W (.slice a len cap) zs) : Ints n₀ W (.slice a (min len 20) cap) (fewOf zs) := by
  rcases h with ⟨a', c', e, rfl⟩ | ⟨b, off, cap', e, hb, hc⟩
  · simp at hz; subst hz; exact .inl ⟨_, _, rfl, rfl⟩
  · obtain ⟨rfl, rfl⟩ : a = some ⟨b, off, none⟩ ∧ cap = cap' := by simp at e; exact ⟨e.1, e.2.2⟩
    refine .inr ⟨b, off, cap, by rw [fewOf_length, hz], hb, fun j hj => ?_⟩
    rw [fewOf_length] at hj
    rw [hc j (by omega)]
    unfold fewOf
    rw [List.getElem?_take_of_lt (by omega)]

set_option maxHeartbeats 400000 in
theorem few_any (a : Option Addr) (len cap : Nat) (w : World) (h : len ≤ cap) (hm : cap ≤ maxLen) :
    Calls Try.prog 10 #[.slice a len cap] w fun e w' => e = .returned (.slice a (min len 20) cap) ∧ w = w' := by
  unfold maxLen at hm
  by_cases h20 : 20 < len
  · rw [show min len 20 = 20 by omega]
    have d : decide ((20 : Int) < (len : Int)) = true := decide_eq_true (by omega)
    go_enter Try.func10, Try.ntmps10
    go_wp2
    go_ret
    exact ⟨rfl, rfl⟩
  · rw [show min len 20 = len by omega]
    have h3 : (len : Int) ≤ 20 := by omega
    go_enter Try.func10, Try.ntmps10
    go_wp2
    go_ways
    go_ret
    exact ⟨rfl, rfl⟩

theorem lowest_le_start (m : Int) (l : List Int) : lowest m l ≤ m := by
  unfold lowest
  induction l generalizing m with
  | nil => simp
  | cons x r ih => simp only [List.foldl_cons]; have := ih (min m x); omega
theorem lowest_le (m : Int) (l : List Int) : ∀ x ∈ l, lowest m l ≤ x := by
  unfold lowest
  induction l generalizing m with
  | nil => simp
  | cons y r ih =>
    intro x hx
    simp only [List.foldl_cons]
    rcases List.mem_cons.1 hx with rfl | h
    · have := lowest_le_start (min m x) r; unfold lowest at this; omega
    · exact ih _ x h
theorem lowest_nonneg (m : Int) (l : List Int) (hm : 0 ≤ m) (h : ∀ x ∈ l, 0 ≤ x) : 0 ≤ lowest m l := by
  unfold lowest
  induction l generalizing m with
  | nil => simpa
  | cons y r ih =>
    simp only [List.foldl_cons]
    exact ih _ (by have := h y (by simp); omega) (fun x hx => h x (by simp [hx]))
theorem lowest_neg (m : Int) (l : List Int) (h : ¬ ∀ x ∈ l, 0 ≤ x) : lowest m l < 0 := by
  have : ∃ x ∈ l, x < 0 := by
    apply Classical.byContradiction
    intro hn
    exact h (fun x hx => by
      apply Classical.byContradiction
      intro hx0
      exact hn ⟨x, hx, by omega⟩)
  obtain ⟨x, hx, h0⟩ := this
  have := lowest_le m l x hx
  omega
theorem take_snoc (l : List Int) (k : Nat) (h : k < l.length) : l.take (k + 1) = l.take k ++ [l[k]?.getD 0] := by
  rw [List.take_succ_eq_append_getElem h]; simp [h]
end Go.Proofs.Ytbdklcdecknceaa

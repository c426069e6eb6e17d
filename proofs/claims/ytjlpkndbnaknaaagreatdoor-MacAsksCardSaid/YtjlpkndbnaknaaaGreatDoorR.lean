/- Layer 4: the padding in its two parts; blocks one behind the other; the length's bytes. -/
import Derived.Test.YtjlpkndbnaknaaaGreatDoorQ
namespace Go.Proofs.YtjlpkndbnaknaaaGreatDoor

/-- How many bytes stand in blocks that are all the text's own. -/
def wholeN (n : Nat) : Nat := n - n % 64
/-- What stands behind these. -/
def endL (l : List Nat) : List Nat := l.drop (wholeN l.length) ++ 128 :: (List.replicate (zerosN l.length) 0 ++ lenL l.length)
theorem padL_split (l : List Nat) : padL l = l.take (wholeN l.length) ++ endL l := by
  unfold padL endL
  rw [← List.append_assoc, List.take_append_drop]
theorem lenL_length (n : Nat) : (lenL n).length = 8 := by simp only [lenL, List.length_map, List.length_range]
theorem endL_length (l : List Nat) : (endL l).length = if 64 < l.length % 64 + 9 then 128 else 64 := by
  simp only [endL, List.length_append, List.length_cons, List.length_replicate, List.length_drop, lenL_length, wholeN, zerosN]
  split <;> omega
theorem wholeN_mod (n : Nat) : wholeN n % 64 = 0 := by unfold wholeN; omega
theorem wholeN_le (n : Nat) : wholeN n ≤ n := by unfold wholeN; omega
theorem mixS_append : ∀ (n m : Nat) (s : Sta) (p q : List Nat), p.length = 64 * n → mixS s (n + m) (p ++ q) = mixS (mixS s n p) m q
  | 0, m, s, p, q, h => by
    have : p = [] := List.length_eq_zero_iff.1 (by omega)
    subst this
    rw [Nat.zero_add, List.nil_append]; rfl
  | n + 1, m, s, p, q, h => by
    rw [show n + 1 + m = (n + m) + 1 by omega]
    rw [mixS, mixS, List.take_append_of_le_length (by omega), List.drop_append_of_le_length (by omega)]
    exact mixS_append n m _ _ q (by rw [List.length_drop]; omega)
/-- The sum, as the program goes: the text's own blocks, then the ending's. -/
theorem sumL_parts (l : List Nat) : sumL l = textS (mixS (mixS beg (wholeN l.length / 64) (l.take (wholeN l.length))) ((endL l).length / 64) (endL l)) := by
  have h1 := wholeN_mod l.length
  have h2 := wholeN_le l.length
  have h3 : (l.take (wholeN l.length)).length = wholeN l.length := by rw [List.length_take]; omega
  unfold sumL
  rw [padL_split l, List.length_append, h3, show (wholeN l.length + (endL l).length) / 64 = wholeN l.length / 64 + (endL l).length / 64 by omega,
    mixS_append _ _ _ _ _ (by omega)]
/-- The length's bytes, as the document's program lays them. -/
def lenR : Nat → Nat → List Nat → List Nat
  | 0, _, t => t
  | k + 1, n, t => lenR k (n / 256) (n % 256 :: t)
theorem lenR_lenL (n : Nat) : lenR 8 (8 * n) [] = lenL n := by
  have e : lenL n = [(8 * n) / 256 ^ 7 % 256, (8 * n) / 256 ^ 6 % 256, (8 * n) / 256 ^ 5 % 256, (8 * n) / 256 ^ 4 % 256, (8 * n) / 256 ^ 3 % 256, (8 * n) / 256 ^ 2 % 256, (8 * n) / 256 ^ 1 % 256, (8 * n) / 256 ^ 0 % 256] := rfl
  rw [e]
  simp only [lenR, Nat.div_div_eq_div_mul, Nat.reduceMul, Nat.reducePow, Nat.div_one]
theorem lenL_folds (n : Nat) (h : n < 65536) : (lenL n).foldl (fun b x => 256 * b + x) 0 = 8 * n := by
  have e : lenL n = [(8 * n) / 256 ^ 7 % 256, (8 * n) / 256 ^ 6 % 256, (8 * n) / 256 ^ 5 % 256, (8 * n) / 256 ^ 4 % 256, (8 * n) / 256 ^ 3 % 256, (8 * n) / 256 ^ 2 % 256, (8 * n) / 256 ^ 1 % 256, (8 * n) / 256 ^ 0 % 256] := rfl
  rw [e]
  simp only [List.foldl]
  omega
/-- What stands in a padded text: the text, 80, bytes 0, the length. -/
theorem padL_zero (l : List Nat) (i : Nat) (h1 : l.length < i) (h2 : i + 8 < (padL l).length) : (padL l)[i]? = some 0 := by
  rw [padL_length] at h2
  unfold padL
  rw [List.getElem?_append_right (by omega)]
  obtain ⟨j, hj⟩ : ∃ j, i - l.length = j + 1 := ⟨i - l.length - 1, by omega⟩
  rw [hj, List.getElem?_cons_succ, List.getElem?_append_left (by rw [List.length_replicate]; omega), List.getElem?_replicate, if_pos (by omega)]
theorem padL_mark (l : List Nat) : (padL l)[l.length]? = some 128 := by
  unfold padL
  rw [List.getElem?_append_right (Nat.le_refl _), Nat.sub_self]; rfl
theorem padL_take (l : List Nat) : (padL l).take l.length = l := by
  unfold padL
  rw [List.take_append_of_le_length (Nat.le_refl _), List.take_length]
theorem padL_last (l : List Nat) : (padL l).drop ((padL l).length - 8) = lenL l.length := by
  rw [padL_length]
  have e : padL l = (l ++ 128 :: List.replicate (zerosN l.length) 0) ++ lenL l.length := by unfold padL; rw [List.append_assoc]; rfl
  rw [e, List.drop_append_of_le_length (by simp only [List.length_append, List.length_cons, List.length_replicate]; omega), List.drop_of_length_le (by simp only [List.length_append, List.length_cons, List.length_replicate]; omega), List.nil_append]
end Go.Proofs.YtjlpkndbnaknaaaGreatDoor

/- Layer 4 as plain functions: digits (bytes as natural numbers below 256). -/
namespace Go.Proofs.YtjlpkndbnaknaaaGreatDoor

/-- What a digit is worth. -/
def digN (c : Nat) : Option Nat := if 48 ≤ c ∧ c ≤ 57 then some (c - 48) else if 97 ≤ c ∧ c ≤ 102 then some (c - 87) else none
/-- The digit of a worth below 16. -/
def digC (n : Nat) : Nat := if n < 10 then n + 48 else n + 87
def hexL (l : List Nat) : List Nat := l.flatMap fun c => [digC (c / 16), digC (c % 16)]
/-- What digits tell; nothing, where they tell nothing. -/
def unhexL : List Nat → Option (List Nat)
  | [] => some []
  | [_] => none
  | a :: b :: r => match digN a, digN b, unhexL r with
    | some x, some y, some l => some ((16 * x + y) :: l)
    | _, _, _ => none

theorem digN_digC {n : Nat} (h : n < 16) : digN (digC n) = some n := by
  unfold digC
  split
  · unfold digN; rw [if_pos (by omega), show n + 48 - 48 = n by omega]
  · unfold digN; rw [if_neg (by omega), if_pos (by omega), show n + 87 - 87 = n by omega]
theorem digC_digN {c n : Nat} (h : digN c = some n) : digC n = c ∧ n < 16 := by
  unfold digN at h
  split at h
  · cases h; unfold digC; split <;> omega
  · split at h
    · cases h; unfold digC; split <;> omega
    · cases h
theorem hexL_nil : hexL [] = [] := rfl
theorem hexL_cons (a : Nat) (l : List Nat) : hexL (a :: l) = digC (a / 16) :: digC (a % 16) :: hexL l := rfl
theorem hexL_append (l m : List Nat) : hexL (l ++ m) = hexL l ++ hexL m := List.flatMap_append
theorem hexL_length (l : List Nat) : (hexL l).length = 2 * l.length := by
  induction l with
  | nil => rfl
  | cons a l ih => rw [hexL_cons, List.length_cons, List.length_cons, List.length_cons, ih]; omega
theorem unhexL_hexL (l : List Nat) (h : ∀ c ∈ l, c < 256) : unhexL (hexL l) = some l := by
  induction l with
  | nil => rfl
  | cons a l ih =>
    have ha := h a (List.mem_cons_self ..)
    rw [hexL_cons, unhexL, digN_digC (by omega), digN_digC (by omega), ih fun c hc => h c (List.mem_cons_of_mem _ hc)]
    show some ((16 * (a / 16) + a % 16) :: l) = _
    congr 2; omega
theorem hexL_unhexL : ∀ (l v : List Nat), unhexL l = some v → hexL v = l ∧ l.length = 2 * v.length ∧ ∀ c ∈ v, c < 256
  | [], v, h => by cases h; exact ⟨rfl, rfl, fun c hc => by cases hc⟩
  | [_], v, h => by cases h
  | a :: b :: r, v, h => by
    rw [unhexL] at h
    cases ha : digN a with
    | none => rw [ha] at h; cases h
    | some x => cases hb : digN b with
      | none => rw [ha, hb] at h; cases h
      | some y => cases hr : unhexL r with
        | none => rw [ha, hb, hr] at h; cases h
        | some m =>
          rw [ha, hb, hr] at h; cases h
          obtain ⟨h1, h2⟩ := digC_digN ha
          obtain ⟨h3, h4⟩ := digC_digN hb
          obtain ⟨h5, h6, h7⟩ := hexL_unhexL r m hr
          refine ⟨?_, ?_, fun c hc => ?_⟩
          · rw [hexL_cons, h5, show (16 * x + y) / 16 = x by omega, show (16 * x + y) % 16 = y by omega, h1, h3]
          · rw [List.length_cons, List.length_cons, List.length_cons, h6]; omega
          · rcases List.mem_cons.1 hc with rfl | hc
            · omega
            · exact h7 c hc
/-- Two parts, the first of an even number. -/
theorem unhexL_append : ∀ (l m : List Nat), l.length % 2 = 0 → unhexL (l ++ m) = match unhexL l, unhexL m with
    | some x, some y => some (x ++ y)
    | _, _ => none
  | [], m, _ => by rw [List.nil_append, unhexL]; cases unhexL m <;> rfl
  | [_], m, h => by simp at h
  | a :: b :: r, m, h => by
    rw [List.cons_append, List.cons_append, unhexL, unhexL, unhexL_append r m (by simpa [Nat.add_assoc] using h)]
    cases digN a <;> cases digN b <;> cases unhexL r <;> cases unhexL m <;> rfl
theorem unhexL_odd : ∀ (l : List Nat), l.length % 2 = 1 → unhexL l = none
  | [], h => by simp at h
  | [_], _ => rfl
  | a :: b :: r, h => by
    rw [unhexL, unhexL_odd r (by simpa [Nat.add_assoc] using h)]
    cases digN a <;> cases digN b <;> rfl
/-- The program's way: digit by digit, till one is none. -/
def valsL : List Nat → Option (List Nat)
  | [] => some []
  | c :: r => match digN c, valsL r with
    | some x, some l => some (x :: l)
    | _, _ => none
/-- Worths, two and two. -/
def pairL : List Nat → List Nat
  | a :: b :: r => (16 * a + b) :: pairL r
  | _ => []
theorem unhexL_vals : ∀ (l : List Nat), l.length % 2 = 0 → unhexL l = (valsL l).map pairL
  | [], _ => rfl
  | [_], h => by simp at h
  | a :: b :: r, h => by
    rw [unhexL, unhexL_vals r (by simpa [Nat.add_assoc] using h), valsL, valsL]
    cases digN a <;> cases digN b <;> cases valsL r <;> rfl
end Go.Proofs.YtjlpkndbnaknaaaGreatDoor

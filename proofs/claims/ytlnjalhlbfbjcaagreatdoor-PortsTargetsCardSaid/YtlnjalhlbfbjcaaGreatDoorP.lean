/- Addresses and prefixes as plain functions; what prefixes have, told by their ends. -/
import Derived.RowKit
namespace Go.Proofs.YtlnjalhlbfbjcaaGreatDoor

def isA (a : Int) : Bool := decide (0 ≤ a ∧ a ≤ 4294967295)
/-- How many addresses a prefix of so many bits has. -/
def blk (k : Int) : Int := ((2 ^ (32 - k).toNat : Nat) : Int)
def cutI (a k : Int) : Int := a - a % blk k
def okK (k : Int) : Bool := decide (0 ≤ k ∧ k ≤ 32)
def rightB (A K : Int) : Bool := okK K && isA A && decide (A % blk K = 0)
def hasB (A K a : Int) : Bool := rightB A K && isA a && decide (cutI a K = A)
def inB (A K B L : Int) : Bool := rightB A K && rightB B L && decide (L ≤ K) && decide (cutI A L = B)
def endT (A K : Int) : Int := A + (blk K - 1)

theorem blk_pos (k : Int) : 0 < blk k := by
  have := Nat.two_pow_pos (32 - k).toNat
  unfold blk; omega
theorem okK_cases {k : Int} (h : okK k = true) : ∃ m : Nat, m ≤ 32 ∧ k = 32 - (m : Int) ∧ blk k = ((2 ^ m : Nat) : Int) := by
  simp only [okK, decide_eq_true_eq] at h
  refine ⟨(32 - k).toNat, by omega, by omega, rfl⟩
/-- The whole is a multiple of a block. -/
theorem blk_all {k : Int} (h : okK k = true) : ∃ c : Int, 4294967296 = blk k * c := by
  obtain ⟨m, hm, _, e⟩ := okK_cases h
  refine ⟨((2 ^ (32 - m) : Nat) : Int), ?_⟩
  rw [e, ← Int.natCast_mul, ← Nat.pow_add, show m + (32 - m) = 32 by omega]
  rfl
/-- A lesser prefix's block is a multiple of a greater one's. -/
theorem blk_mul {k l : Int} (hk : okK k = true) (hl : okK l = true) (h : l ≤ k) : ∃ c : Int, 0 < c ∧ blk l = blk k * c := by
  obtain ⟨m, hm, e1, e2⟩ := okK_cases hk
  obtain ⟨n, hn, e3, e4⟩ := okK_cases hl
  refine ⟨((2 ^ (n - m) : Nat) : Int), by have := Nat.two_pow_pos (n - m); omega, ?_⟩
  rw [e2, e4, ← Int.natCast_mul, ← Nat.pow_add, show m + (n - m) = n by omega]
theorem emod_mul (a m c : Int) (hm : 0 < m) : a % (m * c) = a % m + m * (a / m % c) := by
  have h1 := Int.mul_ediv_add_emod a (m * c)
  have h2 := Int.mul_ediv_add_emod a m
  have h3 := Int.mul_ediv_add_emod (a / m) c
  rw [Int.ediv_ediv_of_nonneg (by omega)] at h3
  have h4 : m * (a / m) = m * (c * (a / (m * c)) + a / m % c) := by rw [h3]
  rw [Int.mul_add, ← Int.mul_assoc] at h4
  omega
theorem cut_lt (a k : Int) : cutI a k ≤ a ∧ a < cutI a k + blk k := by
  have := Int.emod_nonneg a (show blk k ≠ 0 by have := blk_pos k; omega)
  have := Int.emod_lt_of_pos a (blk_pos k)
  unfold cutI; omega
theorem cut_mod (a k : Int) : cutI a k % blk k = 0 := by
  unfold cutI
  rw [Int.sub_emod, Int.emod_emod, Int.sub_self, Int.zero_emod]
theorem cut_nonneg {a k : Int} (h : 0 ≤ a) : 0 ≤ cutI a k := by
  have hp := blk_pos k
  have h1 := Int.mul_ediv_add_emod a (blk k)
  have h2 : 0 ≤ a / blk k := Int.ediv_nonneg h (by omega)
  have h3 : 0 ≤ blk k * (a / blk k) := Int.mul_nonneg (by omega) h2
  unfold cutI; omega
/-- What lies in a block begins where it begins. -/
theorem cut_of {A K a : Int} (hA : A % blk K = 0) (h1 : A ≤ a) (h2 : a < A + blk K) : cutI a K = A := by
  have e : a = A + (a - A) := by omega
  have h3 : a % blk K = a - A := by
    rw [e, Int.add_emod, hA, Int.zero_add, Int.emod_emod, Int.emod_eq_of_lt (by omega) (by omega)]
    omega
  unfold cutI; omega
theorem cut_self {A K : Int} (hA : A % blk K = 0) : cutI A K = A := by unfold cutI; omega
theorem cut_cut {a K L : Int} (hK : okK K = true) (hL : okK L = true) (h : L ≤ K) : cutI (cutI a K) L = cutI a L := by
  obtain ⟨c, hc, e⟩ := blk_mul hK hL h
  have hp := blk_pos K
  have h1 := emod_mul a (blk K) c hp
  have h2 := emod_mul (cutI a K) (blk K) c hp
  rw [cut_mod] at h2
  have h3 : cutI a K / blk K = a / blk K := by
    have hd := Int.mul_ediv_add_emod a (blk K)
    have : cutI a K = blk K * (a / blk K) := by unfold cutI; omega
    rw [this, Int.mul_ediv_cancel_left _ (by omega)]
  rw [h3] at h2
  show cutI a K - cutI a K % blk L = a - a % blk L
  rw [e, h1, h2]
  unfold cutI
  omega
theorem end_le {A K : Int} (hK : okK K = true) (hA : isA A = true) (h : A % blk K = 0) : endT A K ≤ 4294967295 := by
  obtain ⟨c, hc⟩ := blk_all hK
  have hp := blk_pos K
  simp only [isA, decide_eq_true_eq] at hA
  have h1 := Int.mul_ediv_add_emod A (blk K)
  rw [h, Int.add_zero] at h1
  have h2 : A / blk K < c := by
    rcases Int.lt_or_le (A / blk K) c with h' | h'
    · exact h'
    · have := Int.mul_le_mul_of_nonneg_left h' (show 0 ≤ blk K by omega)
      omega
  have h3 : blk K * (A / blk K + 1) ≤ blk K * c := Int.mul_le_mul_of_nonneg_left (by omega) (by omega)
  rw [Int.mul_add, Int.mul_one] at h3
  unfold endT; omega
theorem right_parts {A K : Int} (h : rightB A K = true) : okK K = true ∧ isA A = true ∧ A % blk K = 0 := by
  simp only [rightB, Bool.and_eq_true, decide_eq_true_eq] at h
  exact ⟨h.1.1, h.1.2, h.2⟩
theorem right_mk {A K : Int} (h1 : okK K = true) (h2 : isA A = true) (h3 : A % blk K = 0) : rightB A K = true := by
  simp only [rightB, h1, h2, h3, decide_true, Bool.and_true]
theorem isA_iff {a : Int} : isA a = true ↔ 0 ≤ a ∧ a ≤ 4294967295 := by simp [isA]
/-- A prefix has just what lies between its ends. -/
theorem has_iff {A K a : Int} (h : rightB A K = true) : hasB A K a = true ↔ A ≤ a ∧ a ≤ endT A K := by
  obtain ⟨h1, h2, h3⟩ := right_parts h
  have he := end_le h1 h2 h3
  have hA := isA_iff.1 h2
  have hp := blk_pos K
  simp only [hasB, h, Bool.true_and, Bool.and_eq_true, decide_eq_true_eq]
  constructor
  · rintro ⟨_, hc⟩
    have := cut_lt a K
    unfold endT; omega
  · rintro ⟨g1, g2⟩
    have g2' := g2
    unfold endT at g2'
    exact ⟨isA_iff.2 (by omega), cut_of h3 g1 (by omega)⟩
theorem has_eq {A K a : Int} (h : rightB A K = true) : hasB A K a = decide (A ≤ a ∧ a ≤ endT A K) := by
  rw [Bool.eq_iff_iff, decide_eq_true_eq]; exact has_iff h
theorem has_not {A K a : Int} (h : rightB A K = false) : hasB A K a = false := by simp [hasB, h]
theorem in_not {A K B L : Int} (h : rightB A K = false ∨ rightB B L = false) : inB A K B L = false := by
  rcases h with h | h <;> simp [inB, h]
theorem in_iff {A K B L : Int} (h : rightB A K = true) (h' : rightB B L = true) : inB A K B L = true ↔ L ≤ K ∧ cutI A L = B := by
  simp [inB, h, h']
/-- What is in one prefix is in all that that is in. -/
theorem in_has {A K B L a : Int} (hi : inB A K B L = true) (ha : hasB A K a = true) : hasB B L a = true := by
  simp only [inB, hasB, Bool.and_eq_true, decide_eq_true_eq] at hi ha ⊢
  obtain ⟨⟨⟨r1, r2⟩, hl⟩, hc⟩ := hi
  obtain ⟨⟨_, ia⟩, hca⟩ := ha
  refine ⟨⟨r2, ia⟩, ?_⟩
  rw [← cut_cut (right_parts r1).1 (right_parts r2).1 hl, hca, hc]
/-- Two prefixes that have one address both: one is in the other. -/
theorem in_or {A K B L a : Int} (h1 : hasB A K a = true) (h2 : hasB B L a = true) : inB A K B L = true ∨ inB B L A K = true := by
  simp only [hasB, Bool.and_eq_true, decide_eq_true_eq] at h1 h2
  obtain ⟨⟨r1, ia⟩, hc1⟩ := h1
  obtain ⟨⟨r2, _⟩, hc2⟩ := h2
  rcases Int.le_total L K with h | h
  · refine .inl ((in_iff r1 r2).2 ⟨h, ?_⟩)
    rw [← hc1, cut_cut (right_parts r1).1 (right_parts r2).1 h, hc2]
  · refine .inr ((in_iff r2 r1).2 ⟨h, ?_⟩)
    rw [← hc2, cut_cut (right_parts r2).1 (right_parts r1).1 h, hc1]
theorem in_both {A K B L : Int} (h1 : rightB A K = true) (h2 : rightB B L = true) : (inB A K B L = true ∧ inB B L A K = true) ↔ (A = B ∧ K = L) := by
  rw [in_iff h1 h2, in_iff h2 h1]
  constructor
  · rintro ⟨⟨a, b⟩, c, d⟩
    obtain rfl : K = L := by omega
    exact ⟨by rw [← b, cut_self (right_parts h1).2.2], rfl⟩
  · rintro ⟨rfl, rfl⟩
    exact ⟨⟨by omega, cut_self (right_parts h1).2.2⟩, by omega, cut_self (right_parts h1).2.2⟩
/-- The prefix of an address. -/
theorem of_right {a k : Int} (ha : isA a = true) (hk : okK k = true) : rightB (cutI a k) k = true ∧ hasB (cutI a k) k a = true := by
  have h1 := cut_lt a k
  have h2 := isA_iff.1 ha
  have h3 : rightB (cutI a k) k = true := right_mk hk (isA_iff.2 ⟨cut_nonneg h2.1, by omega⟩) (cut_mod a k)
  refine ⟨h3, ?_⟩
  simp [hasB, h3, ha]
theorem of_in {a k l : Int} (ha : isA a = true) (hk : okK k = true) (hl : okK l = true) (h : l ≤ k) : inB (cutI a k) k (cutI a l) l = true :=
  (in_iff (of_right ha hk).1 (of_right ha hl).1).2 ⟨h, cut_cut hk hl h⟩
/-- The two halves of a prefix. -/
theorem halves {A K : Int} (h : rightB A K = true) (hK : K < 32) :
    okK (K + 1) = true ∧ isA (endT A K) = true ∧ blk K = 2 * blk (K + 1) ∧ cutI A (K + 1) = A ∧ cutI (endT A K) (K + 1) = A + blk (K + 1) := by
  obtain ⟨h1, h2, h3⟩ := right_parts h
  have he := end_le h1 h2 h3
  have hA := isA_iff.1 h2
  have hp := blk_pos (K + 1)
  have hk : okK (K + 1) = true := by simp only [okK, decide_eq_true_eq] at h1 ⊢; omega
  have hb : blk K = 2 * blk (K + 1) := by
    simp only [okK, decide_eq_true_eq] at h1
    unfold blk
    rw [show (32 - K).toNat = (32 - (K + 1)).toNat + 1 by omega, Nat.pow_succ]
    omega
  have hm : A % blk (K + 1) = 0 := by
    have : A % (blk (K + 1) * 2) = 0 := by rw [Int.mul_comm, ← hb]; exact h3
    rw [emod_mul A _ 2 hp] at this
    have g1 := Int.emod_nonneg A (show blk (K + 1) ≠ 0 by omega)
    have g2 : 0 ≤ blk (K + 1) * (A / blk (K + 1) % 2) := Int.mul_nonneg (by omega) (Int.emod_nonneg _ (by omega))
    omega
  have hm2 : (A + blk (K + 1)) % blk (K + 1) = 0 := by rw [Int.add_emod, hm, Int.emod_self]; rfl
  refine ⟨hk, isA_iff.2 ⟨by unfold endT; omega, he⟩, hb, cut_self hm, cut_of hm2 ?_ ?_⟩ <;> unfold endT <;> omega
end Go.Proofs.YtlnjalhlbfbjcaaGreatDoor
